/- The program's ReadKeys. Made by gen_keyi3.py. -/
import Derived.Test.YthnofckkehephaaGreatDoorKyI2
namespace Go.Proofs.YthnofckkehephaaGreatDoor
open Go.RowKit Go.ChangeShapes Go.WideShapes Go.ChangeAt Go.Deep
open Plain
set_option linter.unusedVariables false
set_option linter.unusedSimpArgs false

def lenV : Value → Nat
  | .slice _ n _ => n
  | _ => 0
theorem kyV_some {acc : List Ky} (ws : List (List UInt8)) (h : keysF ws.length ws [] = some acc) : kyV ws = (acc, decide (0 < acc.length)) := by unfold kyV; rw [h]
theorem kyV_none (ws : List (List UInt8)) (h : keysF ws.length ws [] = none) : kyV ws = ([], false) := by unfold kyV; rw [h]
theorem readW_drop {w : World} {a : Option Addr} {n c t : Nat} {l : List (List UInt8)} (f : Addr → Addr) (hf : ∀ g q, f ⟨g, q, none⟩ = ⟨g, q + t, none⟩) (h : ReadW w (.slice a n c) l) (ht : t ≤ l.length) : ReadW w (.slice (if c = t then a else Option.map f a) (n - t) (c - t)) (l.drop t) := by
  obtain ⟨a', c', e, hc, h1⟩ := h
  cases e
  refine ⟨_, _, by rw [List.length_drop], by rw [List.length_drop]; omega, fun k x hx => ?_⟩
  rw [List.getElem?_drop] at hx
  have hlt := (List.getElem?_eq_some_iff.1 hx).1
  obtain ⟨g, q, e2, hl, h2⟩ := h1 (t + k) x hx
  refine ⟨g, q + t, by rw [if_neg (by omega), e2]; exact congrArg some (hf g q), hl, ?_⟩
  rw [← h2, Nat.add_assoc]
set_option maxHeartbeats 4000000 in
set_option maxRecDepth 100000 in
theorem impl_ReadKeys_any (l : List (List UInt8)) (v : Value) (w : World) (hn : l.length ≤ 1048576) (hs : ∀ x ∈ l, x.length ≤ 1048576) (h : ReadW w v l) (he : KEnv w) :
    Calls Tryz.prog 7 #[v] w fun e w' => ∃ u, e = .returned (.tuple #[u, .bool (kyV l).2]) ∧ OwnKy w.heap.size w' u (kyV l).1 ∧ Below w.heap.size w w' := by
  obtain ⟨iY, hY, hY0, hY1, hY2⟩ := info_parts Tryz.infoKey
  have EN : Hid (∀ W, Below w.heap.size w W → KEnv W) := fun W hb => he.below hb
  clear he
  have BB := hide (Below.refl w.heap.size w)
  have H0 := hide h
  have HS := hide hs
  clear h hs
  go_enter Tryz.func7, Tryz.ntmps7
  obtain ⟨a0, c0, rfl, hc0, _⟩ := unhide H0
  go_wp2
  obtain ⟨REL, HREL⟩ : ∃ REL : Value → Value → World → Prop, Hid (REL = fun v u wr => ∃ (ws : List (List UInt8)) (acc : List Ky), ReadW w v ws ∧ ws.length ≤ 1048576 ∧ (∀ x ∈ ws, x.length ≤ 1048576) ∧ OwnKy w.heap.size wr u acc ∧ acc.length ≤ 6 ∧ keysF l.length l [] = keysF ws.length ws acc ∧ Below w.heap.size w wr) := ⟨_, rfl⟩
  go_loopw [0, 4] (fun v u wr => REL v u wr) (fun v _ _ => lenV v)
  case atStart => rw [unhide HREL]; exact ⟨l, [], unhide H0, hn, unhide HS, World.ownsRow_nil _ _ _ _, Nat.zero_le _, rfl, Below.refl _ _⟩
  clear H0 HS hn hc0
  case round =>
    rw [unhide HREL] at hrel
    obtain ⟨ws, acc, hR, hwl, hsz, hO, ha6, hK, hbel⟩ := hrel
    obtain ⟨wo, hwo⟩ : ∃ wo, wo = wr := ⟨_, rfl⟩
    subst hwo
    obtain ⟨au, cu, rfl⟩ := g_shape hO
    have RW := hide hR
    obtain ⟨aw, cw, rfl, hcw, hcc⟩ := hR
    have RC := hide hcc
    have SZ := hide hsz
    have HK := hide hK
    obtain ⟨n, hn⟩ : ∃ n, n = ws.length := ⟨_, rfl⟩
    obtain ⟨m, hm⟩ : ∃ m, m = acc.length := ⟨_, rfl⟩
    have hm6 : m ≤ 6 := by omega
    have hA6 : acc.length ≤ 6 := ha6
    rw [← hm] at hO ⊢
    rw [← hn] at RW hcw hwl ⊢
    have HN := hide hn
    have HM := hide hm
    have OU := hide hO
    clear hcc hsz hK hn hm hO ha6
    clear BB
    have BB := hide hbel
    clear hbel
    have LBO : Hid (w.heap.size ≤ w.heap.size) := Nat.le_refl _
    by_cases h0 : 0 < n
    · have d1 : decide (0 < n) = true := decide_eq_true h0
      have d2 : decide ((0 : Int) < (n : Int)) = true := decide_eq_true (by omega)
      have hne : ws ≠ [] := fun e => by have q_ := unhide HN; rw [e] at q_; simp at q_; omega
      have hst := step_two ws
      have hsl := step_len ws
      have ST := keysF_step (acc := acc) hne
      obtain ⟨⟨⟨pk, pn, pt⟩, t⟩, hP⟩ : ∃ P, P = stepP ws := ⟨_, rfl⟩
      have HP := hide hP
      rw [← hP] at hst hsl ST
      dsimp only at hst hsl ST
      rw [← unhide HN] at hsl
      have HST := hide ST
      have HNE := hide hne
      clear hP ST hne
      go_wp2_with fail
      refine (readKey_any ws _ _ (unhide HNE) (unhide SZ) ((unhide RW).up (unhide BB)) (unhide EN _ (unhide BB))).mono ?_
      rintro e wy1 ⟨rfl, hb⟩
      rw [← unhide HP]
      have OU_ := hide ((unhide OU).up hb)
      clear OU
      have OU := OU_
      clear OU_
      have sz101 := hide (hb.size)
      have BB_ := hide (below_y (unhide BB) hb)
      clear BB
      have BB := BB_
      clear BB_
      clear hb
      clear d1 d2
      have NSU : Hid (∀ q, (Value.slice au m cu).ownBlock = some q → q < wy1.heap.size) := fun q e => (World.ownsRow.lt (unhide OU) q e).2
      obtain ⟨wy2, hK1⟩ : ∃ X, X = wy1.alloc (.cells ([.int .i64 pk, .int .i64 pn, .string pt] : List Value).toArray 33) := ⟨_, rfl⟩
      have K1x : HasObj wy2 wy1.heap.size 33 [.int .i64 pk, .int .i64 pn, .string pt] := by rw [hK1]; exact HasObj.new _ _ _
      have hbn : Below wy1.heap.size wy1 wy2 := by rw [hK1]; exact (Below.refl _ _).alloc (Nat.le_refl _) _
      have loK1 : w.heap.size ≤ wy1.heap.size := (unhide BB).size
      have EK1 := hK1.symm
      clear hK1
      have OU_ := hide ((unhide OU).up hbn)
      clear OU
      have OU := OU_
      clear OU_
      have sz102 := hide (hbn.size)
      have BB_ := hide (below_y (unhide BB) hbn)
      clear BB
      have BB := BB_
      clear BB_
      clear hbn
      have K1 := hide K1x
      clear K1x
      rcases hst with rfl | rfl | rfl
      · simp only [show ((0 : Nat) : Int) = 0 from rfl]
        have K1c0_1 := (unhide K1).cell 0 rfl
        have K1c1_1 := (unhide K1).cell 1 rfl
        have K1c2_1 := (unhide K1).cell 2 rfl
        go_wp2
        go_returns
        have q_ := (unhide HK).trans ((unhide HST).trans (if_pos (by simp)))
        rw [kyV_none l q_]
        exact ⟨_, rfl, World.ownsRow_nil _ _ _ _, unhide BB⟩
      · simp only [show ((1 : Nat) : Int) = 1 from rfl]
        by_cases h6 : m = 6
        · have f6 : ((m : Int) == 6) = true := by simp; omega
          have h6_ : acc.length = 6 := by have := unhide HM; omega
          have K1c0_1 := (unhide K1).cell 0 rfl
          have K1c1_1 := (unhide K1).cell 1 rfl
          have K1c2_1 := (unhide K1).cell 2 rfl
          go_wp2
          go_returns
          have q_ := (unhide HK).trans ((unhide HST).trans (if_pos (by exact .inr h6_)))
          rw [kyV_none l q_]
          exact ⟨_, rfl, World.ownsRow_nil _ _ _ _, unhide BB⟩
        · have f6 : ((m : Int) == 6) = false := by simp; omega
          have h6_ : acc.length ≠ 6 := by have := unhide HM; omega
          have K1c0_1 := (unhide K1).cell 0 rfl
          have K1c1_1 := (unhide K1).cell 1 rfl
          have K1c2_1 := (unhide K1).cell 2 rfl
          skip
          have lw3 := (unhide BB).size
          go_wp2_with (at_builtin; refine wpList_append_own _ rfl _ _ 24 rfl w.heap.size 33 iY _ 3 32 Tryz.underlying24 hY hY0 hY1 hY2 rfl (by decide) _ _ _ rfl (World.ownsRow.alloc (unhide OU) _) ⟨wy2.heap.size, 0, none⟩ 1 1 (kyC ⟨pk, pn, pt⟩) rfl rfl (newsC _ _) ?c2 ?c3 ?c4 ?c5 ?_)
          clear K1c0_1 K1c1_1 K1c2_1 EK1
          case c2 => intro u hu; simp [kyC] at hu; (try rcases hu with rfl | rfl | rfl) <;> (try rcases hu with rfl | rfl) <;> (try subst hu) <;> rfl
          case c3 => unfold maxLen; omega
          case c4 => omega
          case c5 => have q1_ := (unhide BB).size; have sz101_ := unhide sz101; have sz102_ := unhide sz102; simp; omega
          intro vOU3 wv13 hown hgr _
          have oa := World.ownsRow.alloc (unhide OU) (.cells ((kyC ⟨pk, pn, pt⟩) : List Value).toArray 33)
          have K1_ := hide (((unhide K1).alloc (.cells ((kyC ⟨pk, pn, pt⟩) : List Value).toArray 33)).kept hgr (fun e => by have q1_ := unhide NSU _ e.symm; omega))
          have OU_ : Hid (OwnKy w.heap.size wv13 vOU3 (acc ++ [⟨pk, pn, pt⟩])) := by exact OwnKy.snoc hown
          have BB_ : Hid (Below w.heap.size w wv13) := ((unhide BB).alloc (unhide BB).size _).grown hgr (by have q1_ := (unhide BB).size; simp; omega) (fun b hb => by have q2_ := (World.ownsRow.lt (unhide OU) b hb).1; have q1_ := (unhide BB).size; have sz101_ := unhide sz101; have sz102_ := unhide sz102; omega)
          have sz103 : Hid (wy2.heap.size ≤ wv13.heap.size) := by have q3_ := hgr.size; simp at q3_; show _ ≤ _; omega
          clear K1
          have K1 := K1_
          clear K1_
          clear OU
          have OU := OU_
          clear OU_
          clear BB
          have BB := BB_
          clear BB_
          clear hown hgr oa lw3
          clear f6
          have tn : ((1 : Nat) : Int) ≤ (n : Int) := by omega
          have tn2 : (1 : Int) ≤ (n : Int) := by omega
          have tn3 : 1 ≤ n := by omega
          have cc1 : (n : Int) ≤ (cw : Int) := by omega
          go_wp2
          rw [unhide HREL]
          refine ⟨⟨ws.drop 1, acc ++ [⟨pk, pn, pt⟩], readW_drop _ (fun _ _ => rfl) (unhide RW) (by rw [← unhide HN]; omega), by rw [List.length_drop, ← unhide HN]; omega, fun x hx => unhide SZ x (List.mem_of_mem_drop hx), unhide OU, by rw [List.length_append, ← unhide HM]; show m + 1 ≤ 6; omega, (unhide HK).trans ((unhide HST).trans (if_neg (by intro q_; rcases q_ with q_ | q_; exact absurd q_ (by decide); exact h6_ q_))), unhide BB⟩, by show n - 1 < n; omega⟩
      · simp only [show ((2 : Nat) : Int) = 2 from rfl]
        by_cases h6 : m = 6
        · have f6 : ((m : Int) == 6) = true := by simp; omega
          have h6_ : acc.length = 6 := by have := unhide HM; omega
          have K1c0_1 := (unhide K1).cell 0 rfl
          have K1c1_1 := (unhide K1).cell 1 rfl
          have K1c2_1 := (unhide K1).cell 2 rfl
          go_wp2
          go_returns
          have q_ := (unhide HK).trans ((unhide HST).trans (if_pos (by exact .inr h6_)))
          rw [kyV_none l q_]
          exact ⟨_, rfl, World.ownsRow_nil _ _ _ _, unhide BB⟩
        · have f6 : ((m : Int) == 6) = false := by simp; omega
          have h6_ : acc.length ≠ 6 := by have := unhide HM; omega
          have K1c0_1 := (unhide K1).cell 0 rfl
          have K1c1_1 := (unhide K1).cell 1 rfl
          have K1c2_1 := (unhide K1).cell 2 rfl
          skip
          have lw3 := (unhide BB).size
          go_wp2_with (at_builtin; refine wpList_append_own _ rfl _ _ 24 rfl w.heap.size 33 iY _ 3 32 Tryz.underlying24 hY hY0 hY1 hY2 rfl (by decide) _ _ _ rfl (World.ownsRow.alloc (unhide OU) _) ⟨wy2.heap.size, 0, none⟩ 1 1 (kyC ⟨pk, pn, pt⟩) rfl rfl (newsC _ _) ?c2 ?c3 ?c4 ?c5 ?_)
          clear K1c0_1 K1c1_1 K1c2_1 EK1
          case c2 => intro u hu; simp [kyC] at hu; (try rcases hu with rfl | rfl | rfl) <;> (try rcases hu with rfl | rfl) <;> (try subst hu) <;> rfl
          case c3 => unfold maxLen; omega
          case c4 => omega
          case c5 => have q1_ := (unhide BB).size; have sz101_ := unhide sz101; have sz102_ := unhide sz102; simp; omega
          intro vOU3 wv23 hown hgr _
          have oa := World.ownsRow.alloc (unhide OU) (.cells ((kyC ⟨pk, pn, pt⟩) : List Value).toArray 33)
          have K1_ := hide (((unhide K1).alloc (.cells ((kyC ⟨pk, pn, pt⟩) : List Value).toArray 33)).kept hgr (fun e => by have q1_ := unhide NSU _ e.symm; omega))
          have OU_ : Hid (OwnKy w.heap.size wv23 vOU3 (acc ++ [⟨pk, pn, pt⟩])) := by exact OwnKy.snoc hown
          have BB_ : Hid (Below w.heap.size w wv23) := ((unhide BB).alloc (unhide BB).size _).grown hgr (by have q1_ := (unhide BB).size; simp; omega) (fun b hb => by have q2_ := (World.ownsRow.lt (unhide OU) b hb).1; have q1_ := (unhide BB).size; have sz101_ := unhide sz101; have sz102_ := unhide sz102; omega)
          have sz103 : Hid (wy2.heap.size ≤ wv23.heap.size) := by have q3_ := hgr.size; simp at q3_; show _ ≤ _; omega
          clear K1
          have K1 := K1_
          clear K1_
          clear OU
          have OU := OU_
          clear OU_
          clear BB
          have BB := BB_
          clear BB_
          clear hown hgr oa lw3
          clear f6
          have tn : ((2 : Nat) : Int) ≤ (n : Int) := by omega
          have tn2 : (2 : Int) ≤ (n : Int) := by omega
          have tn3 : 2 ≤ n := by omega
          have cc1 : (n : Int) ≤ (cw : Int) := by omega
          go_wp2
          rw [unhide HREL]
          refine ⟨⟨ws.drop 2, acc ++ [⟨pk, pn, pt⟩], readW_drop _ (fun _ _ => rfl) (unhide RW) (by rw [← unhide HN]; omega), by rw [List.length_drop, ← unhide HN]; omega, fun x hx => unhide SZ x (List.mem_of_mem_drop hx), unhide OU, by rw [List.length_append, ← unhide HM]; show m + 1 ≤ 6; omega, (unhide HK).trans ((unhide HST).trans (if_neg (by intro q_; rcases q_ with q_ | q_; exact absurd q_ (by decide); exact h6_ q_))), unhide BB⟩, by show n - 2 < n; omega⟩
    · have en : n = 0 := by omega
      subst en
      obtain rfl : ws = [] := List.eq_nil_of_length_eq_zero (unhide HN).symm
      have q_ := unhide HK
      rw [keysF_stop] at q_
      have q2 := kyV_some l q_
      have HQ := hide q2
      clear q_ q2
      go_wp2
      go_returns
      rw [unhide HQ, ← unhide HM]
      exact ⟨_, by simp, unhide OU, unhide BB⟩
end Go.Proofs.YthnofckkehephaaGreatDoor
