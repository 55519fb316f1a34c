/- Those that are gone are told of: the program's bury. Made by gen_buryi.py. -/
import Derived.Test.YtmedhmgihfenhabGreatExpungePlain
import Derived.Test.YtmedhmgihfenhabGreatForgetI
import Derived.Test.YtmedhmgihfenhabGreatFlagRows
namespace Go.Proofs.YtmedhmgihfenhabGreat
open Go.RowKit
open Plain
set_option linter.unusedVariables false
set_option linter.unusedSimpArgs false

theorem but_then {w W W2 : World} {S : Nat → Prop} (h : GrownBut w W S) (hb : Below W.heap.size W W2) : GrownBut w W2 S := (h.then (GrownBut.below hb rfl)).mono (fun k _ hx => by rcases hx with hx | hx; exact hx; exact absurd hx id)
theorem but_set {w W : World} {S : Nat → Prop} {q j : Nat} (h : GrownBut w W S) (hq : S q) (u : Value) : GrownBut w (W.setCell ⟨q, j, none⟩ u) S := (h.then (GrownBut.of (g_store (j := j) (g_self W (some q)) u))).mono (fun k _ hx => by rcases hx with hx | hx; exact hx; have := Option.some.inj hx; subst this; exact hq)
theorem but_grown {w W W2 : World} {S : Nat → Prop} {r : Option Nat} (h : GrownBut w W S) (hg : W.grownBy W2 r) (hr : ∀ k, r = some k → S k ∨ w.heap.size ≤ k) : GrownBut w W2 S := (h.then (GrownBut.of hg)).mono (fun k hk hx => by rcases hx with hx | hx; exact hx; rcases hr k hx with h1 | h1; exact h1; omega)
namespace Plain
def buriedL (mod : Int) (us : List Int) : List Tb := us.map (fun u => ⟨u, mod⟩)
def buriedTo (ts : List Tb) (mod : Int) (us : List Int) (k : Nat) : List Tb := ts ++ buriedL mod (us.take k)
theorem buriedTo_next {ts : List Tb} {mod : Int} {us : List Int} {k : Nat} {u : Int} (h : us[k]? = some u) : buriedTo ts mod us (k + 1) = buriedTo ts mod us k ++ [⟨u, mod⟩] := by unfold buriedTo buriedL; rw [List.take_add_one, h, List.map_append, List.append_assoc]; rfl
theorem buriedTo_len (ts : List Tb) (mod : Int) (us : List Int) (k : Nat) : (buriedTo ts mod us k).length ≤ ts.length + us.length := by simp [buriedTo, buriedL]; omega
theorem buriedTo_all (ts : List Tb) (mod : Int) (us : List Int) : buriedTo ts mod us us.length = ts ++ buriedL mod us := by simp [buriedTo]
theorem filt_less (t : Tb) (r : List Tb) : ((t :: r).filter (fun y => decide (t.mod < y.mod))).length ≤ r.length := by
  rw [List.filter_cons_of_neg (by simp)]
  exact List.length_filter_le _ _
theorem trimI_more : ∀ (n m : Nat) (ts : List Tb) (hor : Int), ts.length ≤ n → ts.length ≤ m → trimI n (ts, hor) = trimI m (ts, hor) := by
  intro n
  induction n with
  | zero =>
    intro m ts hor h1 h2
    have : ts = [] := List.length_eq_zero_iff.1 (by omega)
    subst this
    cases m <;> simp [trimI]
  | succ n ih =>
    intro m ts hor h1 h2
    cases m with
    | zero =>
      have : ts = [] := List.length_eq_zero_iff.1 (by omega)
      subst this
      simp [trimI]
    | succ m =>
      unfold trimI
      split
      · rfl
      · cases ts with
        | nil => rename_i h; simp at h
        | cons t r =>
          have := filt_less t r
          simp only [List.length_cons] at h1 h2
          exact ih m _ _ (by omega) (by omega)
def trimJ (ts : List Tb) (hor : Int) : List Tb × Int := trimI ts.length (ts, hor)
theorem trimJ_in {ts : List Tb} {hor : Int} (h : ts.length ≤ 40) : trimJ ts hor = (ts, hor) := by
  unfold trimJ
  cases hn : ts.length with
  | zero => rfl
  | succ n => unfold trimI; rw [if_pos (by omega)]
theorem trimJ_on {t : Tb} {r : List Tb} {hor : Int} (h : ¬ (t :: r).length ≤ 40) : trimJ (t :: r) hor = trimJ ((t :: r).filter (fun y => decide (t.mod < y.mod))) (if hor < t.mod then t.mod else hor) := by
  have hd := filt_less t r
  unfold trimJ
  rw [show (t :: r).length = r.length + 1 from rfl]
  conv => lhs; unfold trimI
  rw [if_neg h]
  exact trimI_more _ _ _ _ hd (Nat.le_refl _)
theorem buriedTo_zero (ts : List Tb) (mod : Int) (us : List Int) : buriedTo ts mod us 0 = ts := by simp [buriedTo, buriedL]
end Plain
def lenAt (q : Nat) (w : World) : Nat := match w.cell? ⟨q, 6, none⟩ with | some (.slice _ n _) => n | _ => 0
set_option maxHeartbeats 8000000 in
set_option maxRecDepth 100000 in
theorem bury_any (q B B2 : Nat) (v0 v1 v2 v3 v5 tv uv : Value) (mod hor : Int) (ts : List Tb) (us : List Int) (w : World) (hm0 : 0 ≤ mod) (hm1 : mod ≤ 100000) (ht : ts.length ≤ 4000) (hu : us.length ≤ 4000) (hB : B ≤ w.heap.size) (hq : HasObj w q 117 [v0, v1, v2, v3, .int .i64 mod, v5, tv, .int .i64 hor]) (hT : OwnTb B w tv ts) (hU : OwnI B2 w uv us) :
    Calls Tryz.prog 89 #[.pointer (some ⟨q, 0, none⟩), uv] w fun e w' => e = .returned (.tuple #[]) ∧ ∃ tv', HasObj w' q 117 [v0, v1, v2, v3, .int .i64 (mod + 1), v5, tv', .int .i64 (trimJ (ts ++ buriedL (mod + 1) us) hor).2] ∧ OwnTb B w' tv' (trimJ (ts ++ buriedL (mod + 1) us) hor).1 ∧ (∀ k, tv'.ownBlock = some k → (k = q ∨ tv.ownBlock = some k) ∨ w.heap.size ≤ k) ∧ GrownBut w w' (fun k => k = q ∨ tv.ownBlock = some k) := by
  obtain ⟨iT, hT', hT0, hT1, hT2⟩ := info_parts Tryz.infoTomb
  have hT_ := hT
  clear hT
  have hT := hT'
  obtain ⟨at0, ct0, rfl⟩ := g_shape hT_
  obtain ⟨au0, cu0, rfl⟩ := g_shape hU
  have n1 : IntKind.i64.wrap (mod + 1) = mod + 1 := by rw [IntKind.wrap_i64]; omega
  have HU : Hid (∀ W, GrownBut w W (fun k => k = q ∨ (Value.slice at0 ts.length ct0).ownBlock = some k) → OwnI B2 W (.slice au0 us.length cu0) us) := fun W hg => hg.row hU (fun g hg1 hx => by
    rcases hx with hx | hx
    · rw [hx] at hg1; exact hq.not_row (by decide) hU hg1
    · exact rows_apart hU hT_ (by decide) g hg1 hx)
  have k4 := hq.cell 4 rfl
  have f4 := hq.frozen 4
  obtain ⟨X, hX⟩ : ∃ X, X = w.setCell ⟨q, 4, none⟩ (.int .i64 (mod + 1)) := ⟨_, rfl⟩
  have q1 := hq.set 4 (.int .i64 (mod + 1))
  have t1 := hq.row (j := 4) (by decide) hT_ (.int .i64 (mod + 1))
  have g1 : GrownBut w X (fun k => k = q ∨ (Value.slice at0 ts.length ct0).ownBlock = some k) := by rw [hX]; exact but_set ⟨rfl, rfl, rfl, Nat.le_refl _, fun _ _ _ => rfl⟩ (.inl rfl) _
  rw [← hX] at q1 t1
  have EX := hX.symm
  have Q1 := hide q1
  have T1 := hide t1
  have G1 := hide g1
  clear hX q1 t1 g1 hT_ hU hq
  go_enter Tryz.func89, Tryz.ntmps89
  go_wp2
  clear EX k4 f4
  go_loopw [17] (fun i wr => ∃ (k : Nat) (v : Value), k ≤ us.length ∧ i = .int .i64 k ∧ HasObj wr q 117 [v0, v1, v2, v3, .int .i64 (mod + 1), v5, v, .int .i64 hor] ∧ OwnTb B wr v (buriedTo ts (mod + 1) us k) ∧ (∀ k, v.ownBlock = some k → (k = q ∨ (Value.slice at0 ts.length ct0).ownBlock = some k) ∨ w.heap.size ≤ k) ∧ GrownBut w wr (fun k => k = q ∨ (Value.slice at0 ts.length ct0).ownBlock = some k)) (fun i _ => us.length - (intOf i).toNat)
  case atStart => exact ⟨0, _, Nat.zero_le _, rfl, unhide Q1, by rw [buriedTo_zero]; exact unhide T1, fun k hk => .inl (.inr hk), unhide G1⟩
  clear Q1 T1 G1
  case round =>
    obtain ⟨k, v, hk, rfl, hQ, hTv, htv, hgb⟩ := hrel
    obtain ⟨wo, hwo⟩ : ∃ wo, wo = wr := ⟨_, rfl⟩
    subst hwo
    obtain ⟨av, cv, rfl⟩ := g_shape hTv
    by_cases hlt : k < us.length
    · have hgk : us[k]? = some us[k] := List.getElem?_eq_getElem hlt
      obtain ⟨g, c, e, _, hg, c0⟩ := OwnI.cell (unhide HU wo hgb) hgk
      cases e
      have NX := hide (buriedTo_next (ts := ts) (mod := mod + 1) hgk)
      have LN := buriedTo_len ts (mod + 1) us k
      generalize us[k] = u at *
      have i1 : (0 : Int) ≤ (k : Int) := by omega
      have i2 : (k : Int) < (us.length : Int) := by omega
      have Q := hide hQ
      have OT := hide hTv
      have TVI := hide htv
      have BB := hide hgb
      clear hQ hTv htv hgb hgk
      have hBw : B ≤ wo.heap.size := Nat.le_trans hB (unhide BB).size
      have Qc0_1 := (unhide Q).cell 0 rfl
      have Qc1_1 := (unhide Q).cell 1 rfl
      have Qc2_1 := (unhide Q).cell 2 rfl
      have Qc3_1 := (unhide Q).cell 3 rfl
      have Qc4_1 := (unhide Q).cell 4 rfl
      have Qc5_1 := (unhide Q).cell 5 rfl
      have Qc6_1 := (unhide Q).cell 6 rfl
      have Qc7_1 := (unhide Q).cell 7 rfl
      go_wp2
      refine lateBegin (S := fun w' => w'.cell? ⟨q, 4, none⟩ = some (.int .i64 (mod + 1)) ∧ w'.cell? ⟨q, 6, none⟩ = some (.slice av (buriedTo ts (mod + 1) us k).length cv)) 18 (by kernel_rfl) (⟨(unhide Q).cell 4 rfl, (unhide Q).cell 6 rfl⟩) (fun hHeld => ?_)
      clear Qc0_1 Qc1_1 Qc2_1 Qc3_1 Qc4_1 Qc5_1 Qc6_1 Qc7_1
      have Q_ := hide ((unhide Q).drew)
      clear Q
      have Q := Q_
      clear Q_
      have OT_ := hide ((unhide OT).drew)
      clear OT
      have OT := OT_
      clear OT_
      have BB_ := hide ((unhide BB).drew)
      clear BB
      have BB := BB_
      clear BB_
      have sz101 : Hid (wo.heap.size ≤ wo.drew.heap.size) := Nat.le_refl _
      refine lateTake 0 (some 21) ?_ rfl (by kernel_rfl) (by kernel_rfl) (by kernel_rfl) (by kernel_rfl) rfl (fun _ _ _ h => h) (by rfl) (by assumption) ?_ ?_
      rotate_left
      · (intro w hSw; (try dsimp only at hSw); go_simp <;> with_reducible rfl)
      simp only [Act.put, List.setIfInBounds_toArray, List.set_cons_zero, List.set_cons_succ]
      refine lateTake 1 (some 22) ?_ rfl (by kernel_rfl) (by kernel_rfl) (by kernel_rfl) (by kernel_rfl) rfl (fun _ _ _ h => h) (by rfl) (by assumption) ?_ ?_
      rotate_left
      · (intro w hSw; (try dsimp only at hSw); go_simp <;> with_reducible rfl)
      simp only [Act.put, List.setIfInBounds_toArray, List.set_cons_zero, List.set_cons_succ]
      refine lateTake 2 (some 23) ?_ rfl (by kernel_rfl) (by kernel_rfl) (by kernel_rfl) (by kernel_rfl) rfl (fun _ _ _ h => h) (by rfl) (by assumption) ?_ ?_
      rotate_left
      · (intro w hSw; (try dsimp only at hSw); go_simp <;> with_reducible rfl)
      simp only [Act.put, List.setIfInBounds_toArray, List.set_cons_zero, List.set_cons_succ]
      refine lateTake 3 (some 24) ?_ rfl (by kernel_rfl) (by kernel_rfl) (by kernel_rfl) (by kernel_rfl) rfl (fun _ _ _ h => h) (by rfl) (by assumption) ?_ ?_
      rotate_left
      · (intro w hSw; (try dsimp only at hSw); go_simp <;> with_reducible rfl)
      simp only [Act.put, List.setIfInBounds_toArray, List.set_cons_zero, List.set_cons_succ]
      refine lateTake 4 (some 25) ?_ rfl (by kernel_rfl) (by kernel_rfl) (by kernel_rfl) (by kernel_rfl) rfl (fun _ _ _ h => h) (by rfl) (by assumption) ?_ ?_
      rotate_left
      · (intro w hSw; (try dsimp only at hSw); go_simp <;> with_reducible rfl)
      simp only [Act.put, List.setIfInBounds_toArray, List.set_cons_zero, List.set_cons_succ]
      refine lateTake 5 (some 26) ?_ rfl (by kernel_rfl) (by kernel_rfl) (by kernel_rfl) (by kernel_rfl) rfl (fun _ _ _ h => h) (by rfl) (by assumption) ?_ ?_
      rotate_left
      · (intro w hSw; (try dsimp only at hSw); go_simp <;> with_reducible rfl)
      simp only [Act.put, List.setIfInBounds_toArray, List.set_cons_zero, List.set_cons_succ]
      refine lateTake 6 (some 27) ?_ rfl (by kernel_rfl) (by kernel_rfl) (by kernel_rfl) (by kernel_rfl) rfl (fun _ _ _ h => h) (by rfl) (by assumption) ?_ ?_
      rotate_left
      · (intro w hSw; (try dsimp only at hSw); go_simp <;> with_reducible rfl)
      simp only [Act.put, List.setIfInBounds_toArray, List.set_cons_zero, List.set_cons_succ]
      refine lateTake 7 (some 28) ?_ rfl (by kernel_rfl) (by kernel_rfl) (by kernel_rfl) (by kernel_rfl) rfl (fun _ _ _ h => h) (by rfl) (by assumption) ?_ ?_
      rotate_left
      · (intro w hSw; (try dsimp only at hSw); go_simp <;> with_reducible rfl)
      simp only [Act.put, List.setIfInBounds_toArray, List.set_cons_zero, List.set_cons_succ]
      refine lateTake 8 (some 29) ?_ rfl (by kernel_rfl) (by kernel_rfl) (by kernel_rfl) (by kernel_rfl) rfl (fun _ _ _ h => h) (by rfl) (by assumption) ?_ ?_
      rotate_left
      · (intro w hSw; (try dsimp only at hSw); go_simp <;> with_reducible rfl)
      simp only [Act.put, List.setIfInBounds_toArray, List.set_cons_zero, List.set_cons_succ]
      refine lateTake 9 (some 30) ?_ rfl (by kernel_rfl) (by kernel_rfl) (by kernel_rfl) (by kernel_rfl) rfl (fun _ _ _ h => h) (by rfl) (by assumption) ?_ ?_
      rotate_left
      · (intro w hSw; (try dsimp only at hSw); go_simp <;> with_reducible rfl)
      simp only [Act.put, List.setIfInBounds_toArray, List.set_cons_zero, List.set_cons_succ]
      refine lateTake 10 (some 31) ?_ rfl (by kernel_rfl) (by kernel_rfl) (by kernel_rfl) (by kernel_rfl) rfl (fun _ _ _ h => h) (by rfl) (by assumption) ?_ ?_
      rotate_left
      · (intro w hSw; (try dsimp only at hSw); go_simp <;> with_reducible rfl)
      simp only [Act.put, List.setIfInBounds_toArray, List.set_cons_zero, List.set_cons_succ]
      refine lateTake 11 (some 32) ?_ rfl (by kernel_rfl) (by kernel_rfl) (by kernel_rfl) (by kernel_rfl) rfl (fun _ _ _ h => h) (by rfl) (by assumption) ?_ ?_
      rotate_left
      · (intro w hSw; (try dsimp only at hSw); go_simp <;> with_reducible rfl)
      simp only [Act.put, List.setIfInBounds_toArray, List.set_cons_zero, List.set_cons_succ]
      refine lateTake 12 (some 33) ?_ rfl (by kernel_rfl) (by kernel_rfl) (by kernel_rfl) (by kernel_rfl) rfl (fun _ _ _ h => h) (by rfl) (by assumption) ?_ ?_
      rotate_left
      · (intro w hSw; (try dsimp only at hSw); go_simp <;> with_reducible rfl)
      simp only [Act.put, List.setIfInBounds_toArray, List.set_cons_zero, List.set_cons_succ]
      refine lateStep 13 (by kernel_rfl) rfl (by rfl) (fun K hK => ?_)
      go_simp
      have hA : Below wo.drew.heap.size wo.drew (wo.drew.alloc (.cells ((tbC (⟨u, mod + 1⟩ : Tb)) : List Value).toArray 110)) := (Below.refl _ _).alloc (Nat.le_refl _) _
      have Q_ := hide ((unhide Q).ups hA)
      clear Q
      have Q := Q_
      clear Q_
      have OT_ := hide ((unhide OT).up hA)
      clear OT
      have OT := OT_
      clear OT_
      have sz102 := hide (hA.size)
      have BB_ := hide (but_then (unhide BB) hA)
      clear BB
      have BB := BB_
      clear BB_
      clear hA
      refine hK.out _ _ (⟨(unhide Q).cell 4 rfl, (unhide Q).cell 6 rfl⟩) (fun hHeld2 => ?_)
      clear hK K hHeld
      have hHeld := hHeld2; clear hHeld2
      try simp only [Act.put, List.setIfInBounds_toArray, List.set_cons_zero, List.set_cons_succ]
      have oa := unhide OT
      have ldl := (unhide BB).size
      refine lateStep 14 (by kernel_rfl) rfl (by rfl) (fun K hK => ?_)
      refine wp_append_lies _ (.tmp 26) (.tmp 34) 31 rfl (B) 110 iT _ 2 16 Tryz.underlying31 hT hT0 hT1 hT2 rfl (by decide) (.slice av (buriedTo ts (mod + 1) us k).length cv) _ _ rfl oa ⟨wo.drew.heap.size, 0, none⟩ 1 1 (tbC (⟨u, mod + 1⟩ : Tb)) rfl rfl (newsC _ _) ?c2 (by decide) ?c3 ?c4 ?c5 (wo.drew.heap.size + 1) (by simp) ?_
      case c2 => intro u hu; simp [mlC, tbC, rgl] at hu; (try rcases hu with rfl | rfl | rfl | rfl) <;> (try rcases hu with rfl | rfl) <;> (try subst hu) <;> rfl
      case c3 => unfold maxLen; omega
      case c4 => omega
      case c5 => have q1_ := (unhide BB).size; have sz101_ := unhide sz101; have sz102_ := unhide sz102; (try simp at q1_); (try simp); omega
      intro gr1 capr1 wr1 hown hgr hat hlt_
      have Q_ := hide ((unhide Q).kept hgr (fun e => (unhide Q).not_row (by decide) oa e.symm))
      have OT_ : Hid (OwnTb (B) wr1 (.slice (some ⟨gr1, 0, none⟩) ((buriedTo ts (mod + 1) us k).length + 1) capr1) (buriedTo ts (mod + 1) us (k + 1))) := by show OwnTb _ _ _ _; rw [unhide NX]; exact OwnTb.snoc hown
      have BB_ : Hid (GrownBut w wr1 (fun k => k = q ∨ (Value.slice at0 ts.length ct0).ownBlock = some k)) := but_grown (unhide BB) hgr (unhide TVI)
      have TVI_ : Hid (∀ x, (Value.slice (some ⟨gr1, 0, none⟩) ((buriedTo ts (mod + 1) us k).length + 1) capr1).ownBlock = some x → (x = q ∨ (Value.slice at0 ts.length ct0).ownBlock = some x) ∨ w.heap.size ≤ x) := fun x hx => by have e1 : gr1 = x := Option.some.inj hx; subst e1; rcases hat with hat | hat; exact unhide TVI _ hat; (right; have t1 := (unhide BB).size; simp at t1 hat; omega)
      clear TVI
      have TVI := TVI_
      clear TVI_
      have sz103 : Hid ((wo.drew.alloc (.cells ((tbC (⟨u, mod + 1⟩ : Tb)) : List Value).toArray 110)).heap.size ≤ wr1.heap.size) := hgr.size
      clear Q
      have Q := Q_
      clear Q_
      clear OT
      have OT := OT_
      clear OT_
      clear BB
      have BB := BB_
      clear BB_
      clear hown hgr hat hlt_ oa ldl
      refine hK.out _ _ (⟨(unhide Q).cell 4 rfl, (unhide Q).cell 6 rfl⟩) (fun hHeld2 => ?_)
      clear hK K hHeld
      have hHeld := hHeld2; clear hHeld2
      try simp only [Act.put, List.setIfInBounds_toArray, List.set_cons_zero, List.set_cons_succ]
      refine lateStep 15 (by kernel_rfl) rfl (by rfl) (fun K hK => ?_)
      go_simp
      refine hK.out _ _ (⟨(unhide Q).cell 4 rfl, (unhide Q).cell 6 rfl⟩) (fun hHeld2 => ?_)
      clear hK K hHeld
      have hHeld := hHeld2; clear hHeld2
      try simp only [Act.put, List.setIfInBounds_toArray, List.set_cons_zero, List.set_cons_succ]
      refine lateStep 16 (by kernel_rfl) rfl (by rfl) (fun K hK => ?_)
      go_simp
      refine hK.out _ _ (⟨(unhide Q).cell 4 rfl, (unhide Q).cell 6 rfl⟩) (fun hHeld2 => ?_)
      clear hK K hHeld
      have hHeld := hHeld2; clear hHeld2
      try simp only [Act.put, List.setIfInBounds_toArray, List.set_cons_zero, List.set_cons_succ]
      refine lateStep 17 (by kernel_rfl) rfl (by rfl) (fun K hK => ?_)
      go_simp
      refine hK.out _ _ (⟨(unhide Q).cell 4 rfl, (unhide Q).cell 6 rfl⟩) (fun hHeld2 => ?_)
      clear hK K hHeld
      have hHeld := hHeld2; clear hHeld2
      try simp only [Act.put, List.setIfInBounds_toArray, List.set_cons_zero, List.set_cons_succ]
      have Qfz6_2 := (unhide Q).frozen 6
      have Qcz6_2 := (unhide Q).cell 6 rfl
      obtain ⟨wr2, hst⟩ : ∃ X, X = wr1.setCell ⟨q, 6, none⟩ (.slice (some ⟨gr1, 0, none⟩) ((buriedTo ts (mod + 1) us k).length + 1) capr1) := ⟨_, rfl⟩
      have OT_ : Hid (OwnTb B wr2 (.slice (some ⟨gr1, 0, none⟩) ((buriedTo ts (mod + 1) us k).length + 1) capr1) (buriedTo ts (mod + 1) us (k + 1))) := by show OwnTb _ _ _ _; rw [hst]; exact (unhide Q).row (j := 6) (by decide) (unhide OT) _
      have Q_ := hide ((unhide Q).set 6 (.slice (some ⟨gr1, 0, none⟩) ((buriedTo ts (mod + 1) us k).length + 1) capr1))
      rw [← hst] at Q_
      have BB_ := hide (but_set (j := 6) (unhide BB) (.inl rfl) (.slice (some ⟨gr1, 0, none⟩) ((buriedTo ts (mod + 1) us k).length + 1) capr1))
      rw [← hst] at BB_
      have sz104 : Hid (wr1.heap.size ≤ wr2.heap.size) := by show _ ≤ _; rw [hst]; simp
      clear OT
      have OT := OT_
      clear OT_
      clear Q
      have Q := Q_
      clear Q_
      clear BB
      have BB := BB_
      clear BB_
      have Est104 := hst.symm
      clear hst
      refine lateLast 18 (by decide) (by kernel_rfl) rfl (by rfl) (fun K hK => ?_)
      go_simp
      refine hK.out _ _ ?_
      clear hK K hHeld
      try simp only [Act.put, List.setIfInBounds_toArray, List.set_cons_zero, List.set_cons_succ]
      try rw [Est104]
      clear Qfz6_2 Qcz6_2 Est104
      refine lateDone (by kernel_rfl) ?_ _
      go_wp2
      go_roundw
      case rel => exact ⟨k + 1, _, by omega, by go_num, unhide Q, unhide OT, unhide TVI, unhide BB⟩
      case measure => simp [intOf]; omega
    · obtain rfl : k = us.length := by omega
      rw [buriedTo_all] at hTv hQ htv
      have LT : (ts ++ buriedL (mod + 1) us).length ≤ 8000 := by simp [buriedL]; omega
      obtain ⟨TR, hTR⟩ : ∃ x, x = trimJ (ts ++ buriedL (mod + 1) us) hor := ⟨_, rfl⟩
      have TRE := hide hTR
      have Q := hide hQ
      have OT := hide hTv
      have TVI := hide htv
      have BB := hide hgb
      clear hQ hTv htv hgb hTR
      go_wp2
      go_loopw [41] (fun _ wr => ∃ (tz : List Tb) (hz : Int) (v : Value), tz.length ≤ 8000 ∧ TR = trimJ tz hz ∧ HasObj wr q 117 [v0, v1, v2, v3, .int .i64 (mod + 1), v5, v, .int .i64 hz] ∧ OwnTb B wr v tz ∧ (∀ k, v.ownBlock = some k → (k = q ∨ (Value.slice at0 ts.length ct0).ownBlock = some k) ∨ w.heap.size ≤ k) ∧ GrownBut w wr (fun k => k = q ∨ (Value.slice at0 ts.length ct0).ownBlock = some k)) (fun _ wr => lenAt q wr)
      case atStart => exact ⟨_, _, _, LT, unhide TRE, unhide Q, unhide OT, unhide TVI, unhide BB⟩
      clear Q OT TVI BB LT
      case round =>
        obtain ⟨tz, hz, v, hlz, htr, hQ, hTv, htv, hgb⟩ := hrel
        obtain ⟨wo, hwo⟩ : ∃ wo, wo = wr := ⟨_, rfl⟩
        subst hwo
        obtain ⟨av, cv, rfl⟩ := g_shape hTv
        have k6 := hQ.cell 6 rfl
        by_cases h40 : tz.length ≤ 40
        · have d1 : decide ((40 : Int) < (tz.length : Int)) = false := by rw [decide_eq_false_iff_not]; omega
          have V := hide (htr.trans (trimJ_in h40))
          have Q := hide hQ
          have OT := hide hTv
          have TVI := hide htv
          have BB := hide hgb
          clear hQ hTv htv hgb htr
          go_wp2
          go_end0
          refine ⟨rfl, _, ?_, ?_, unhide TVI, unhide BB⟩
          · rw [← unhide TRE, unhide V]; exact unhide Q
          · rw [← unhide TRE, unhide V]; exact unhide OT
        · have d1 : decide ((40 : Int) < (tz.length : Int)) = true := by rw [decide_eq_true_eq]; omega
          cases tz with
          | nil => simp at h40
          | cons t r =>
            obtain ⟨g, c, e, hg, c0, c1⟩ := tb_read hTv (Below.refl _ _) (k := 0) (f := t) rfl
            cases e
            simp only [Nat.zero_mul, Nat.zero_add] at c0 c1
            have ON := hide (htr.trans (trimJ_on h40))
            have LS := hide (filt_less t r)
            have FG := hide (forget_any q B _ _ _ _ _ _ _ hz t.mod (t :: r) wo (by omega) hQ hTv)
            have i1 : (0 : Int) < ((t :: r).length : Int) := by rw [List.length_cons]; omega
            have M0 : Hid (lenAt q wo = (t :: r).length) := by show _ = _; unfold lenAt; rw [k6]
            have TVI := hide htv
            have BB := hide hgb
            have hl9 : Hid ((t :: r).length ≤ 8000) := hlz
            obtain ⟨nz, hnz⟩ : ∃ n, n = (t :: r).length := ⟨_, rfl⟩
            rw [← hnz] at k6 i1 d1
            clear hQ hTv htv hgb htr hlz h40
            have HNZ := hide hnz
            clear hnz
            go_wp2_with fail
            refine (show Calls _ _ _ _ _ from unhide FG).mono ?_
            rintro e w5 ⟨rfl, tv5, hQ5, hT5, eb5, gb5⟩
            obtain ⟨a5, c5, rfl⟩ := g_shape hT5
            have G5 : Hid (GrownBut w w5 (fun k => k = q ∨ (Value.slice at0 ts.length ct0).ownBlock = some k)) := ((unhide BB).then gb5).mono (fun k hk hx => by
              rcases hx with hx | hx | hx
              · exact hx
              · exact .inl hx
              · rcases unhide TVI k (by rw [← hx]) with h1 | h1
                · exact h1
                · omega)
            have TV5 : Hid (∀ k, (Value.slice a5 ((t :: r).filter (fun y => decide (t.mod < y.mod))).length c5).ownBlock = some k → (k = q ∨ (Value.slice at0 ts.length ct0).ownBlock = some k) ∨ w.heap.size ≤ k) := fun k hk => unhide TVI k (by rw [eb5] at hk; rw [← hk])
            have L5 : Hid (lenAt q w5 = ((t :: r).filter (fun y => decide (t.mod < y.mod))).length) := by show _ = _; unfold lenAt; rw [hQ5.cell 6 rfl]
            have Q5 := hide hQ5
            have T5 := hide hT5
            clear hQ5 hT5 eb5 gb5 k6 c0 c1 i1 d1
            go_wp2
            go_roundw
            case rel => exact ⟨_, _, _, by have := unhide LS; have h8 := unhide hl9; rw [List.length_cons] at h8; omega, unhide ON, unhide Q5, unhide T5, unhide TV5, unhide G5⟩
            case measure => rw [unhide M0, unhide L5]; have := unhide LS; rw [List.length_cons]; omega
end Go.Proofs.YtmedhmgihfenhabGreat
