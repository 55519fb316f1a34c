/- Marks in a row of acts; a row of acts that came in, opened. -/
import Derived.Test.YtipmbfjcgmchkabActS
import Derived.Test.YtipmbfjcgmchkabFilesMarks
namespace Go.Proofs.Ytipmbfjcgmchkab
open Go.ChangeShapes Go.WideShapes Go.ChangeAt Go.RowKit Go.Deep
open Plain
set_option linter.unusedVariables false

theorem row_some {w : World} {B g n cap m : Nat} {e : TypeId} {xs : List Value} (h : w.ownsRow B e m (.slice (some ⟨g, 0, none⟩) n cap) n xs) {j : Nat} (hj : j < n * m) : ∃ y, w.cell? ⟨g, j, none⟩ = some y := by
  rw [h.cellAt j (by simpa using hj)]
  exact ⟨_, List.getElem?_eq_getElem (by rw [h.1]; exact hj)⟩

set_option maxHeartbeats 2000000 in
set_option maxRecDepth 100000 in
theorem markActS_any (l : List Ac) (v : Value) (B k0 : Nat) (w : World) (hs : l.length ≤ 1048576) (hk0 : 1 ≤ k0) (hk1 : k0 ≤ 100000000) (h : OwnA B w v l) :
    Calls Try.prog 21 #[v, .int .i64 k0] w fun e w' => e = .returned (.int .i64 ((k0 + l.length * 4 : Nat) : Int)) ∧ w.grownBy w' v.ownBlock := by
  unfold OwnA at h
  obtain ⟨n, hn⟩ : ∃ n, n = l.length := ⟨_, rfl⟩
  rw [← hn] at h hs ⊢
  clear hn
  generalize acs l = xs0 at h
  rcases h.2 with ⟨rfl, hz⟩ | ⟨g, cap, cur, rfl, hbg, hh, hrest⟩
  · subst hz
    go_enter Try.func21, Try.ntmps21
    go_wp2
    refine wp_loop_rounds 1 ?_
    rw [rounds_succ]
    go_wp2
    go_ret
    exact ⟨by simp, grown_self _ _⟩
  · clear hh hrest
    have H0 := hide h
    clear h
    go_enter Try.func21, Try.ntmps21
    go_wp2
    go_loopw [1, 5] (fun m i wr => ∃ (k K : Nat) (xs : List Value), k ≤ n ∧ K = k0 + k * 4 ∧ i = .int .i64 k ∧ m = .int .i64 (K : Int) ∧ wr.ownsRow B 62 4 (.slice (some ⟨g, 0, none⟩) n cap) n xs ∧ w.grownBy wr (some g)) (fun _ i _ => n - (intOf i).toNat)
    case atStart => exact ⟨0, k0, xs0, Nat.zero_le _, by simp, rfl, rfl, unhide H0, grown_self _ _⟩
    case round =>
      obtain ⟨k, K, xs, hk, hK, rfl, rfl, hown, hbel⟩ := hrel
      by_cases hlt : k < n
      · have M1 := hide (fun wx => markText_any (k0 + k * 4 + 1) wx (by omega) (by omega))
        have M2 := hide (fun wx => markText_any (k0 + k * 4 + 2) wx (by omega) (by omega))
        have M3 := hide (fun wx => markText_any (k0 + k * 4 + 3) wx (by omega) (by omega))
        rw [← hK] at M1 M2 M3
        have hKb : K ≤ 200000000 := by omega
        have HK := hide hK
        clear hK
        have eK1 : ((K + 1 : Nat) : Int) = (K : Int) + 1 := by omega
        have eK2 : ((K + 2 : Nat) : Int) = (K : Int) + 1 + 1 := by omega
        have eK3 : ((K + 3 : Nat) : Int) = (K : Int) + 1 + 1 + 1 := by omega
        rw [eK1] at M1
        rw [eK2] at M2
        rw [eK3] at M3
        clear eK1 eK2 eK3
        obtain ⟨y0, d0⟩ := row_some hown (j := k * 4) (by omega)
        have f0 := hown.frozenAt (k * 4)
        have O0 := hide (hown.stored (k * 4) (.int .i64 (K : Int))).1
        have G0 := hide (grown_store (j := k * 4) hbel (.int .i64 (K : Int)))
        clear hown hbel
        go_wp2_with fail
        obtain ⟨w0, hw0⟩ : ∃ w0, w0 = wr.setCell ⟨g, k * 4, none⟩ (.int .i64 (K : Int)) := ⟨_, rfl⟩
        rw [← hw0] at O0 G0 ⊢
        clear hw0 d0 f0
        refine (unhide M1 _).mono ?_
        rintro e v1 ⟨rfl, hb1⟩
        have own1 := own_stays (unhide O0) hb1
        obtain ⟨y1, d1⟩ := row_some own1 (j := k * 4 + 1) (by omega)
        have f1 := own1.frozenAt (k * 4 + 1)
        have O1 := hide (own1.stored (k * 4 + 1) (.string ⟨(mkL (K + 1)).toArray⟩)).1
        have G1 := hide (grown_store (j := k * 4 + 1) (grown_then (unhide G0) hb1) (.string ⟨(mkL (K + 1)).toArray⟩))
        clear own1 O0 G0 hb1
        go_wp2_with fail
        obtain ⟨w1, hw1⟩ : ∃ w, w = v1.setCell ⟨g, k * 4 + 1, none⟩ (.string ⟨(mkL (K + 1)).toArray⟩) := ⟨_, rfl⟩
        rw [← hw1] at O1 G1 ⊢
        clear hw1 d1 f1
        refine (unhide M2 _).mono ?_
        rintro e v2 ⟨rfl, hb2⟩
        have own2 := own_stays (unhide O1) hb2
        obtain ⟨y2, d2⟩ := row_some own2 (j := k * 4 + 2) (by omega)
        have f2 := own2.frozenAt (k * 4 + 2)
        have O2 := hide (own2.stored (k * 4 + 2) (.string ⟨(mkL (K + 2)).toArray⟩)).1
        have G2 := hide (grown_store (j := k * 4 + 2) (grown_then (unhide G1) hb2) (.string ⟨(mkL (K + 2)).toArray⟩))
        clear own2 O1 G1 hb2
        go_wp2_with fail
        obtain ⟨w2, hw2⟩ : ∃ w, w = v2.setCell ⟨g, k * 4 + 2, none⟩ (.string ⟨(mkL (K + 2)).toArray⟩) := ⟨_, rfl⟩
        rw [← hw2] at O2 G2 ⊢
        clear hw2 d2 f2
        refine (unhide M3 _).mono ?_
        rintro e v3 ⟨rfl, hb3⟩
        have own3 := own_stays (unhide O2) hb3
        obtain ⟨y3, d3⟩ := row_some own3 (j := k * 4 + 3) (by omega)
        have f3 := own3.frozenAt (k * 4 + 3)
        have O3 := hide (own3.stored (k * 4 + 3) (.string ⟨(mkL (K + 3)).toArray⟩)).1
        have G3 := hide (grown_store (j := k * 4 + 3) (grown_then (unhide G2) hb3) (.string ⟨(mkL (K + 3)).toArray⟩))
        clear own3 O2 G2 hb3
        go_wp2
        go_roundw
        case rel => exact ⟨k + 1, K + 4, _, by omega, by have := unhide HK; omega, by go_num, by go_num, unhide O3, unhide G3⟩
        case measure => simp [intOf]; omega
      · have e : k = n := by omega
        subst e
        have HK := hide hK
        clear hK
        go_wp2
        go_ret
        exact ⟨by rw [← unhide HK]; rfl, hbel⟩

set_option maxRecDepth 100000 in
theorem open_acts {H : Type} {enc : TypeId × Value → H} {W : World} {base : Nat} {v : Value} {d : DataW H} {ps : List MemPlace} (hval : Value.okWide Try.prog W .any base 39 v)
    (h : DataW.Trod enc Try.prog W 0 (fun _ => true) true 39 v d ps) :
    ∃ (a : Option Addr) (cap : Nat) (l : List Ac), v = .slice a l.length cap ∧ l.length ≤ maxLen ∧ ArgA W.heap.size W a l := by
  obtain ⟨va, vn, vc, rfl⟩ := okWide_slice Try.underlying39 hval
  obtain ⟨fuel, hf⟩ := h
  rcases open_slice Try.underlying39 hf with ⟨hcs, _⟩ | ⟨a, len, cap, m, n, D, Pl, hcs, _, hlc, hcm, hm, _, hel⟩
  · simp [Value.cells] at hcs
    obtain ⟨rfl, rfl, rfl⟩ := hcs
    exact ⟨none, 0, [], rfl, Nat.zero_le _, fun i f hf => by simp at hf⟩
  · simp [Value.cells] at hcs
    obtain ⟨rfl, rfl, rfl⟩ := hcs
    have hm' : m = vc := by simpa using hm
    have each : ∀ i, i < vn → ∃ f : Ac, ActIn f ∧ W.cell? (a.add (i * 4)) = some (.int .i64 f.kind) ∧ W.cell? ⟨(a.add (i * 4)).block, (a.add (i * 4)).off + 1, none⟩ = some (.string f.name) ∧
        W.cell? ⟨(a.add (i * 4)).block, (a.add (i * 4)).off + 2, none⟩ = some (.string f.text) ∧ W.cell? ⟨(a.add (i * 4)).block, (a.add (i * 4)).off + 3, none⟩ = some (.string f.to) := by
      intro i hi
      obtain ⟨cs', h1, h2⟩ := hel i (by omega)
      rw [Try.cellsLAct] at h1
      obtain ⟨_, hlen, hc⟩ := World.cells?_some h1
      obtain ⟨f, hcs', hin⟩ := open_actcells hlen h2
      subst hcs'
      have c0 := hc 0 (by simp)
      have c1 := hc 1 (by simp)
      have c2 := hc 2 (by simp)
      have c3 := hc 3 (by simp)
      rw [add_one] at c1
      rw [add_two] at c2
      rw [add_three] at c3
      refine ⟨f, hin, ?_, c1, c2, c3⟩
      simpa [Addr.add] using c0
    have inh : Inhabited Ac := ⟨ac0⟩
    obtain ⟨F, hF⟩ := choose_lt (α := Ac) each
    refine ⟨some a, vc, (List.range vn).map F, by simp, by simp; omega, fun i f hf => ?_⟩
    have hi : i < vn := by
      rcases Nat.lt_or_ge i vn with h1 | h1
      · exact h1
      · rw [List.getElem?_eq_none (by simpa using h1)] at hf; cases hf
    obtain rfl : F i = f := by simpa [hi] using hf
    obtain ⟨hin, c0, c1, c2, c3⟩ := hF i hi
    refine ⟨a, rfl, ?_, hin, c0, c1, c2, c3⟩
    have := World.block_lt_of_cell? W _ c0
    rwa [add_blk] at this
end Go.Proofs.Ytipmbfjcgmchkab
