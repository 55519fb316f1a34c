/- The walk of FnExactReadKeys. Made by gen_keylaw.py. -/
import Derived.Test.YthnofckkehephaaGreatDoorWordArg
import Derived.Test.YthnofckkehephaaGreatDoorKeyMarks
namespace Go.Proofs.YthnofckkehephaaGreatDoor
open Go.RowKit Go.ChangeShapes Go.WideShapes Go.ChangeAt Go.Deep
open Plain
set_option linter.unusedVariables false
set_option linter.unusedSimpArgs false

set_option maxHeartbeats 1000000 in
set_option maxRecDepth 100000 in
theorem markWords_any (l : List (List UInt8)) (v : Value) (B k0 : Nat) (w : World) (hs : l.length ≤ 1048576) (hk0 : 1 ≤ k0) (hk1 : k0 ≤ 100000000) (hB : B ≤ w.heap.size)
    (h : w.ownsRow B 9 1 v l.length (Plain.strs l)) :
    Calls Tryz.prog 10 #[v, .int .i64 k0] w fun e w' => e = .returned (.int .i64 ((k0 : Int) + l.length)) ∧ w'.ownsRow B 9 1 v l.length (Plain.strs (marksL k0 l.length)) ∧ w.grownBy w' v.ownBlock := by
  rcases h.2 with ⟨rfl, hz⟩ | ⟨g, cap, cur, rfl, hbg, hh, hrest⟩
  · have e : l = [] := List.eq_nil_of_length_eq_zero hz
    subst e
    go_enter Tryz.func10, Tryz.ntmps10
    go_wp2
    refine wp_loop_rounds 1 ?_
    rw [rounds_succ]
    go_wp2
    go_ret
    exact ⟨by simp, h, g_self _ _⟩
  · clear hh hrest
    go_enter Tryz.func10, Tryz.ntmps10
    go_wp2
    go_loopw [1, 5] (fun m i wr => ∃ k : Nat, k ≤ l.length ∧ i = .int .i64 k ∧ m = .int .i64 ((k0 : Int) + k) ∧ wr.ownsRow B 9 1 (.slice (some ⟨g, 0, none⟩) l.length cap) l.length (Plain.strs (markedL k0 l k)) ∧ B ≤ wr.heap.size ∧ w.grownBy wr (some g)) (fun _ i _ => l.length - (intOf i).toNat)
    case atStart => exact ⟨0, Nat.zero_le _, rfl, by simp, by rw [markedL_zero]; exact h, hB, g_self _ _⟩
    case round =>
      obtain ⟨k, hk, rfl, rfl, hown, hsz, hbel⟩ := hrel
      by_cases hlt : k < l.length
      · have hset := hide (markedL_set (k0 := k0) hlt)
        have hlen := hide (markedL_length (k0 := k0) hk)
        have hmt := fun wx => markText_any (k0 + k) wx (by omega) (by omega)
        rw [show ((k0 + k : Nat) : Int) = (k0 : Int) + k from by omega] at hmt
        have hcur : ∃ y, wr.cell? ⟨g, k, none⟩ = some y := by
          rw [hown.cellAt k (by omega)]
          refine ⟨_, List.getElem?_eq_getElem (by rw [Plain.strs_length, markedL_length hk]; omega)⟩
        have hfz : wr.frozen? ⟨g, k, none⟩ = false := hown.frozenAt k
        have hgl : g < wr.heap.size := (hown.lt g rfl).2
        obtain ⟨y, hy⟩ := hcur
        have HY := hide hy
        have HF := hide hfz
        have HM := hide hmt
        clear hy hfz hmt
        go_wp2_with fail
        refine (unhide HM _).mono ?_
        rintro e w1 ⟨rfl, hb1⟩
        have hy1 : w1.cell? ⟨g, k, none⟩ = some y := (hb1.cell (p := ⟨g, k, none⟩) hgl).trans (unhide HY)
        have hf1 : w1.frozen? ⟨g, k, none⟩ = false := (hb1.frozen (p := ⟨g, k, none⟩) hgl).trans (unhide HF)
        have hown1 : w1.ownsRow B 9 1 (.slice (some ⟨g, 0, none⟩) l.length cap) l.length (Plain.strs (markedL k0 l k)) := own_below hown hb1
        have hst := hide (hown1.stored k (.string ⟨(mkL (k0 + k)).toArray⟩))
        have hB1 := g_then hbel hb1
        have hs1 : B ≤ w1.heap.size := by have := hB1.size; omega
        clear hown hown1
        go_wp2
        go_roundw
        case rel => exact ⟨k + 1, by omega, by go_num, by go_num, by rw [← unhide hset]; exact (unhide hst).1, by have := (unhide hst).2.size; omega, g_store hB1 _⟩
        case measure => simp [intOf]; omega
      · have e : k = l.length := by omega
        subst e
        rw [markedL_all] at hown
        go_wp2
        go_ret
        exact ⟨rfl, hown, hbel⟩

theorem keysF_few : ∀ (f : Nat) (ws : List (List UInt8)) (acc r : List Ky), acc.length ≤ 6 → keysF f ws acc = some r → r.length ≤ 6 := by
  intro f
  induction f with
  | zero => intro ws acc r h e; cases e; exact h
  | succ f ih =>
    intro ws acc r h e
    rw [keysF] at e
    by_cases h0 : ws = []
    · rw [if_pos h0] at e; cases e; exact h
    · rw [if_neg h0] at e
      by_cases h1 : (stepP ws).2 = 0 ∨ acc.length = 6
      · rw [if_pos h1] at e; cases e
      · rw [if_neg h1] at e
        exact ih _ _ _ (by rw [List.length_append]; have : acc.length ≠ 6 := fun q => h1 (.inr q); simp; omega) e
theorem kyV_few (l : List (List UInt8)) : (kyV l).1.length ≤ 6 := by
  unfold kyV
  split
  · exact Nat.zero_le _
  · rename_i r h; exact keysF_few _ _ _ _ (Nat.zero_le _) h
def OwnSw (B : Nat) (w : World) (v : Value) (l : List (List UInt8)) : Prop := w.ownsRow B 9 1 v l.length (Plain.strs l)
theorem OwnSw.up {B : Nat} {w w' : World} {v : Value} {l : List (List UInt8)} (h : OwnSw B w v l) (hb : Below w.heap.size w w') : OwnSw B w' v l := g_stays h hb
set_option maxHeartbeats 16000000 in
set_option maxRecDepth 100000 in
theorem FnExactReadKeys_walk (a : Option Addr) (cap : Nat) (l : List (List UInt8)) (w : World) (hm : l.length ≤ maxLen) (h : ArgW w.heap.size w a l)
    (CI : ∀ (v : Value) (W : World), l.length ≤ 1048576 → (∀ x ∈ l, x.length ≤ 1048576) → ReadW W v l → Below w.heap.size w W → Calls Tryz.prog 7 #[v] W fun e w' => ∃ u, e = .returned (.tuple #[u, .bool (kyV l).2]) ∧ OwnKy W.heap.size w' u (kyV l).1 ∧ Below W.heap.size W w')
    (SI : ∀ (v : Value) (W : World), l.length ≤ 1048576 → (∀ x ∈ l, x.length ≤ 1048576) → ReadW W v l → Calls Tryz.prog 5 #[v] W fun e w' => ∃ u, e = .returned (.tuple #[u, .bool (kyV l).2]) ∧ OwnKy W.heap.size w' u (kyV l).1 ∧ Below W.heap.size W w') :
    Calls Tryz.prog 3 #[.slice a l.length cap] w fun e w' => e = .returned (.bool true) ∧ Below w.heap.size w w' := by
  have HA := hide h
  have CH := hide CI
  have SH := hide SI
  clear h CI SI
  obtain ⟨⟨ks, kb⟩, hV⟩ : ∃ V, V = kyV l := ⟨_, rfl⟩
  have K6 : ks.length ≤ 1048576 := by have := kyV_few l; rw [← hV] at this; dsimp only at this; omega
  have HV := hide hV
  clear hV
  have BB := hide (Below.refl w.heap.size w)
  go_enter Tryz.func3, Tryz.ntmps3
  go_wp2_with fail
  refine (szStringS_any a cap l 1048576 _ (Nat.le_refl _) hm (unhide HA)).mono ?_
  rintro e w1 ⟨⟨m, rfl, hq⟩, hb⟩
  have sz1 := hide (hb.size)
  have BB_ := hide (below_y (unhide BB) hb)
  clear BB
  have BB := BB_
  clear BB_
  clear hb
  rcases hq with rfl | ⟨r, rfl, hr, hn, hs⟩
  · go_wp2
    go_ret
    exact ⟨rfl, unhide BB⟩
  · have i1 : ¬ (r : Int) < 0 := by omega
    have HS := hide hs
    clear hs hr
    go_wp2_with fail
    refine (toStringS_any a cap l _ hn ((unhide HA).up (unhide BB))).mono ?_
    rintro e wm2 ⟨vS1, rfl, oS1, hb⟩
    obtain ⟨aS1, cS1, rfl⟩ := g_shape oS1
    have S1_ := hide oS1
    clear oS1
    have sz2 := hide (hb.size)
    have BB_ := hide (below_y (unhide BB) hb)
    clear BB
    have BB := BB_
    clear BB_
    clear hb
    have S1 : Hid (OwnSw w1.heap.size wm2 (.slice aS1 l.length cS1) l) := S1_
    clear S1_
    go_wp2_with fail
    refine (unhide SH _ _ hn (unhide HS) (readW_own (unhide S1))).mono ?_
    rintro e wm3 ⟨vWK, rfl, oWK, hb⟩
    rw [← unhide HV] at oWK ⊢
    dsimp only at oWK ⊢
    obtain ⟨aWK, cWK, rfl⟩ := g_shape oWK
    have WK_ := hide oWK
    clear oWK
    have S1_ := hide ((unhide S1).up hb)
    clear S1
    have S1 := S1_
    clear S1_
    have sz3 := hide (hb.size)
    have BB_ := hide (below_y (unhide BB) hb)
    clear BB
    have BB := BB_
    clear BB_
    clear hb
    have WK : Hid (OwnKy wm2.heap.size wm3 (.slice aWK ks.length cWK) ks) := WK_
    clear WK_
    clear S1
    go_wp2_with fail
    refine (toStringS_any a cap l _ hn ((unhide HA).up (unhide BB))).mono ?_
    rintro e wm4 ⟨vX0, rfl, oX0, hb⟩
    obtain ⟨aX0, cX0, rfl⟩ := g_shape oX0
    have X0_ := hide oX0
    clear oX0
    have WK_ := hide ((unhide WK).up hb)
    clear WK
    have WK := WK_
    clear WK_
    have sz4 := hide (hb.size)
    have BB_ := hide (below_y (unhide BB) hb)
    clear BB
    have BB := BB_
    clear BB_
    clear hb
    have X0 : Hid (OwnSw wm3.heap.size wm4 (.slice aX0 l.length cX0) l) := X0_
    clear X0_
    have WLT : Hid (∀ x, (Value.slice aWK ks.length cWK).ownBlock = some x → x < wm4.heap.size) := fun x e => (World.ownsRow.lt (unhide WK) x e).2
    go_wp2_with fail
    refine (unhide CH _ _ hn (unhide HS) (readW_own (unhide X0)) (unhide BB)).mono ?_
    rintro e wm5 ⟨vGK, rfl, oGK, hb⟩
    rw [← unhide HV] at oGK ⊢
    dsimp only at oGK ⊢
    obtain ⟨aGK, cGK, rfl⟩ := g_shape oGK
    have GK_ := hide oGK
    clear oGK
    have WK_ := hide ((unhide WK).up hb)
    clear WK
    have WK := WK_
    clear WK_
    have X0_ := hide ((unhide X0).up hb)
    clear X0
    have X0 := X0_
    clear X0_
    have sz5 := hide (hb.size)
    have BB_ := hide (below_y (unhide BB) hb)
    clear BB
    have BB := BB_
    clear BB_
    clear hb
    have GK : Hid (OwnKy wm4.heap.size wm5 (.slice aGK ks.length cGK) ks) := GK_
    clear GK_
    go_wp2_with fail
    refine (eqKeyS_same ks _ _ _ _ _ K6 (unhide GK) (unhide WK)).mono ?_
    rintro e wm6 ⟨rfl, hb⟩
    have WK_ := hide ((unhide WK).up hb)
    clear WK
    have WK := WK_
    clear WK_
    have X0_ := hide ((unhide X0).up hb)
    clear X0
    have X0 := X0_
    clear X0_
    have GK_ := hide ((unhide GK).up hb)
    clear GK
    have GK := GK_
    clear GK_
    have sz6 := hide (hb.size)
    have BB_ := hide (below_y (unhide BB) hb)
    clear BB
    have BB := BB_
    clear BB_
    clear hb
    go_wp2_with fail
    refine (toStringS_any a cap l _ hn ((unhide HA).up (unhide BB))).mono ?_
    rintro e wm7 ⟨vS2, rfl, oS2, hb⟩
    obtain ⟨aS2, cS2, rfl⟩ := g_shape oS2
    have S2_ := hide oS2
    clear oS2
    have WK_ := hide ((unhide WK).up hb)
    clear WK
    have WK := WK_
    clear WK_
    have X0_ := hide ((unhide X0).up hb)
    clear X0
    have X0 := X0_
    clear X0_
    have GK_ := hide ((unhide GK).up hb)
    clear GK
    have GK := GK_
    clear GK_
    have sz7 := hide (hb.size)
    have BB_ := hide (below_y (unhide BB) hb)
    clear BB
    have BB := BB_
    clear BB_
    clear hb
    have S2 : Hid (OwnSw wm6.heap.size wm7 (.slice aS2 l.length cS2) l) := S2_
    clear S2_
    go_wp2_with fail
    refine (eqStringS_same l _ _ _ _ _ _ rfl hn (unhide X0) (unhide S2)).mono ?_
    rintro e wm8 ⟨rfl, nq, hq⟩
    have hb : Below wm7.heap.size wm7 wm8 := by rw [hq]; exact ⟨rfl, rfl, rfl, Nat.le_refl _, fun _ _ => rfl⟩
    clear hq
    have WK_ := hide ((unhide WK).up hb)
    clear WK
    have WK := WK_
    clear WK_
    have X0_ := hide ((unhide X0).up hb)
    clear X0
    have X0 := X0_
    clear X0_
    have GK_ := hide ((unhide GK).up hb)
    clear GK
    have GK := GK_
    clear GK_
    have S2_ := hide ((unhide S2).up hb)
    clear S2
    have S2 := S2_
    clear S2_
    have sz8 := hide (hb.size)
    have BB_ := hide (below_y (unhide BB) hb)
    clear BB
    have BB := BB_
    clear BB_
    clear hb
    clear S2
    go_wp2_with fail
    have LX : wm3.heap.size ≤ wm8.heap.size := by have sz1_ := unhide sz1; have sz2_ := unhide sz2; have sz3_ := unhide sz3; have sz4_ := unhide sz4; have sz5_ := unhide sz5; have sz6_ := unhide sz6; have sz7_ := unhide sz7; have sz8_ := unhide sz8; omega
    refine (markWords_any l _ _ 1 _ hn (by decide) (by decide) LX (unhide X0)).mono ?_
    rintro e wm9 ⟨rfl, _, hg⟩
    have WK_ : Hid (OwnKy wm2.heap.size wm9 (.slice aWK ks.length cWK) (ks)) := g_aside (unhide WK) hg (fun x hx => rows_apart (unhide X0) (unhide WK) (by decide) x hx)
    have GK_ : Hid (OwnKy wm4.heap.size wm9 (.slice aGK ks.length cGK) (ks)) := g_aside (unhide GK) hg (fun x hx => rows_apart (unhide X0) (unhide GK) (by decide) x hx)
    have BB_ : Hid (Below w.heap.size w wm9) := (unhide BB).grown hg (unhide BB).size (fun b hb => by have q2_ := (World.ownsRow.lt (unhide X0) b hb).1; have sz1_ := unhide sz1; have sz2_ := unhide sz2; have sz3_ := unhide sz3; have sz4_ := unhide sz4; have sz5_ := unhide sz5; have sz6_ := unhide sz6; have sz7_ := unhide sz7; have sz8_ := unhide sz8; have q1_ := (unhide BB).size; omega)
    have sz9 : Hid (wm8.heap.size ≤ wm9.heap.size) := hg.size
    clear WK
    have WK := WK_
    clear WK_
    clear GK
    have GK := GK_
    clear GK_
    clear BB
    have BB := BB_
    clear BB_
    clear hg X0
    have i2 : ¬ (((1 : Nat) : Int) + (l.length : Int) < 0) := by omega
    have i3 : ¬ ((1 : Int) + (l.length : Int) < 0) := by omega
    go_wp2_with fail
    refine (eqKeyS_same ks _ _ _ _ _ K6 (unhide GK) (unhide WK)).mono ?_
    rintro e wm10 ⟨rfl, hb⟩
    have WK_ := hide ((unhide WK).up hb)
    clear WK
    have WK := WK_
    clear WK_
    have GK_ := hide ((unhide GK).up hb)
    clear GK
    have GK := GK_
    clear GK_
    have sz10 := hide (hb.size)
    have BB_ := hide (below_y (unhide BB) hb)
    clear BB
    have BB := BB_
    clear BB_
    clear hb
    go_wp2_with fail
    have LG : wm4.heap.size ≤ wm10.heap.size := by have sz1_ := unhide sz1; have sz2_ := unhide sz2; have sz3_ := unhide sz3; have sz4_ := unhide sz4; have sz5_ := unhide sz5; have sz6_ := unhide sz6; have sz7_ := unhide sz7; have sz8_ := unhide sz8; have sz9_ := unhide sz9; have sz10_ := unhide sz10; omega
    refine (markKeyS_any ks _ _ 1 _ K6 (by decide) (by decide) (unhide GK)).mono ?_
    rintro e wm11 ⟨rfl, oM, hg⟩
    have WK_ : Hid (OwnKy wm2.heap.size wm11 (.slice aWK ks.length cWK) (ks)) := g_aside (unhide WK) hg (fun x hx h2 => by have q1_ := (World.ownsRow.lt (unhide GK) x hx).1; have q2_ := unhide WLT x h2; omega)
    have BB_ : Hid (Below w.heap.size w wm11) := (unhide BB).grown hg (unhide BB).size (fun b hb => by have q2_ := (World.ownsRow.lt (unhide GK) b hb).1; have sz1_ := unhide sz1; have sz2_ := unhide sz2; have sz3_ := unhide sz3; have sz4_ := unhide sz4; have sz5_ := unhide sz5; have sz6_ := unhide sz6; have sz7_ := unhide sz7; have sz8_ := unhide sz8; have sz9_ := unhide sz9; have sz10_ := unhide sz10; have q1_ := (unhide BB).size; omega)
    have sz11 : Hid (wm10.heap.size ≤ wm11.heap.size) := hg.size
    clear GK
    have GK := hide oM
    clear oM
    clear WK
    have WK := WK_
    clear WK_
    clear BB
    have BB := BB_
    clear BB_
    clear hg
    obtain ⟨q9, hq9⟩ : ∃ q : Nat, q = 1 + ks.length * 3 := ⟨_, rfl⟩
    rw [← hq9]
    have HQ := hide hq9
    have i4 : ¬ ((q9 : Int) < 0) := by omega
    clear hq9
    go_wp2_with fail
    refine (heldKeyS_any ks.length _ _ 1 _ K6 (by decide) (by decide) (unhide GK)).mono ?_
    rintro e wm12 ⟨rfl, hb⟩
    rw [← unhide HQ]
    have WK_ := hide ((unhide WK).up hb)
    clear WK
    have WK := WK_
    clear WK_
    have GK_ := hide ((unhide GK).up hb)
    clear GK
    have GK := GK_
    clear GK_
    have sz12 := hide (hb.size)
    have BB_ := hide (below_y (unhide BB) hb)
    clear BB
    have BB := BB_
    clear BB_
    clear hb
    go_wp2_with fail
    refine (toStringS_any a cap l _ hn ((unhide HA).up (unhide BB))).mono ?_
    rintro e wm13 ⟨vS3, rfl, oS3, hb⟩
    obtain ⟨aS3, cS3, rfl⟩ := g_shape oS3
    have S3_ := hide oS3
    clear oS3
    have WK_ := hide ((unhide WK).up hb)
    clear WK
    have WK := WK_
    clear WK_
    have GK_ := hide ((unhide GK).up hb)
    clear GK
    have GK := GK_
    clear GK_
    have sz13 := hide (hb.size)
    have BB_ := hide (below_y (unhide BB) hb)
    clear BB
    have BB := BB_
    clear BB_
    clear hb
    have S3 : Hid (OwnSw wm12.heap.size wm13 (.slice aS3 l.length cS3) l) := S3_
    clear S3_
    go_wp2_with fail
    refine (unhide CH _ _ hn (unhide HS) (readW_own (unhide S3)) (unhide BB)).mono ?_
    rintro e wm14 ⟨vHK2, rfl, oHK2, hb⟩
    rw [← unhide HV] at oHK2 ⊢
    dsimp only at oHK2 ⊢
    obtain ⟨aHK2, cHK2, rfl⟩ := g_shape oHK2
    have HK2_ := hide oHK2
    clear oHK2
    have WK_ := hide ((unhide WK).up hb)
    clear WK
    have WK := WK_
    clear WK_
    have GK_ := hide ((unhide GK).up hb)
    clear GK
    have GK := GK_
    clear GK_
    have S3_ := hide ((unhide S3).up hb)
    clear S3
    have S3 := S3_
    clear S3_
    have sz14 := hide (hb.size)
    have BB_ := hide (below_y (unhide BB) hb)
    clear BB
    have BB := BB_
    clear BB_
    clear hb
    have HK2 : Hid (OwnKy wm13.heap.size wm14 (.slice aHK2 ks.length cHK2) ks) := HK2_
    clear HK2_
    clear S3
    go_wp2_with fail
    refine (eqKeyS_same ks _ _ _ _ _ K6 (unhide HK2) (unhide WK)).mono ?_
    rintro e wm15 ⟨rfl, hb⟩
    have WK_ := hide ((unhide WK).up hb)
    clear WK
    have WK := WK_
    clear WK_
    have GK_ := hide ((unhide GK).up hb)
    clear GK
    have GK := GK_
    clear GK_
    have HK2_ := hide ((unhide HK2).up hb)
    clear HK2
    have HK2 := HK2_
    clear HK2_
    have sz15 := hide (hb.size)
    have BB_ := hide (below_y (unhide BB) hb)
    clear BB
    have BB := BB_
    clear BB_
    clear hb
    clear HK2
    go_wp2_with fail
    refine (heldKeyS_any ks.length _ _ 1 _ K6 (by decide) (by decide) (unhide GK)).mono ?_
    rintro e wm16 ⟨rfl, hb⟩
    rw [← unhide HQ]
    have WK_ := hide ((unhide WK).up hb)
    clear WK
    have WK := WK_
    clear WK_
    have GK_ := hide ((unhide GK).up hb)
    clear GK
    have GK := GK_
    clear GK_
    have sz16 := hide (hb.size)
    have BB_ := hide (below_y (unhide BB) hb)
    clear BB
    have BB := BB_
    clear BB_
    clear hb
    go_wp2
    go_ret
    exact ⟨rfl, unhide BB⟩
end Go.Proofs.YthnofckkehephaaGreatDoor
