/- The records of a file, as the program reads them. -/
import Derived.Test.YtnlcknklghalkaaDoorFrames1
import Derived.Test.YtnlcknklghalkaaDoorShelf
namespace Go.Proofs.YtnlcknklghalkaaDoor
open Go.RowKit Go.Shelf
open Plain
set_option linter.unusedVariables false

attribute [local go_sem] Oper.semAt_some

theorem CloneF_any (s : ByteArray) (w : World) (h : s.size ≤ 281474976710656) :
    Calls Tryd.prog 28 #[.string s] w fun e w' => e = .returned (.string s) ∧ Below w.heap.size w w' := by
  go_enter Tryd.func28, Tryd.ntmps28
  go_wp2_with (go_at_call 38; refine (Tryd.stringslite_Clone s _ h).mono ?_; rintro e w1 ⟨rfl, hb⟩)
  go_ret
  exact ⟨rfl, by assumption⟩

theorem keeps_below {W W' : World} (h : Below W.heap.size W W') : KeepsOthers W W' :=
  ⟨h.size, fun k o hk _ => (h.block k (Array.getElem?_eq_some_iff.1 hk).1).trans hk⟩
theorem boxed_below {W W' : World} {B : Nat} {t : TypeId} {v : Value} (h : Below W.heap.size W W') (b : Boxed W B t v) : Boxed W' B t v := (h.block B b.lt).trans b

/-- A record is laid behind the others, and the box holds the longer row. -/
theorem appendedF {W w1 : World} {B n₀ m : Nat} {t e : TypeId} {size : Nat} {v v' : Value} {k j : Nat} {xs ys : List Value} {tmp : Obj}
    (hv : Boxed W B t v) (hte : t ≠ e) (hrow : W.ownsRow n₀ e size v k xs) (hm0 : m ≤ W.heap.size) (hm : m ≤ n₀) (hB : m ≤ B)
    (hown' : w1.ownsRow n₀ e size v' j ys) (hgrow : (W.alloc tmp).grownBy w1 v.ownBlock) :
    Boxed w1 B t v ∧ Boxed (w1.setCell ⟨B, 0, none⟩ v') B t v' ∧ (w1.setCell ⟨B, 0, none⟩ v').ownsRow n₀ e size v' j ys ∧ KeepsOthers W (w1.setCell ⟨B, 0, none⟩ v') ∧ Below m W (w1.setCell ⟨B, 0, none⟩ v') ∧
      ∀ B2 t2 u, B2 ≠ B → B2 < n₀ → Boxed W B2 t2 u → Boxed (w1.setCell ⟨B, 0, none⟩ v') B2 t2 u := by
  obtain ⟨h1, h2, h3, h4, h5⟩ := hv.appended hte (own_lower hrow hm) hm0 hB (own_lower hown' hm) hgrow
  refine ⟨h1, h2, hown'.kept (grownBy_setCell' w1 B v') (.inr (h1.not_row hte hown').symm), h4, h5, fun B2 t2 u hne hlt b => ?_⟩
  refine Boxed.other ((b.alloc tmp).kept hgrow (fun e' => ?_)) hne v'
  have := (hrow.lt B2 e'.symm).1
  omega

theorem operIn_append_own {F : Fence} {n : Nat} {P : Program} (w : World) {o : Oper} {a : Act} {K : Act → World → Prop} {Q : Exit → Act → World → Prop}
    (s x : Operand) (t : TypeId) (hop : o.op = Op.call { callee := Callee.builtin Builtin.append, args := #[s, x], argTypes := #[t, t] })
    (base : Nat) (e : TypeId) (i : TypeInfo) (z : Value) (size bytes : Nat) (h1 : P.underlying t = some (.slice e)) (h2 : P.info? e = some i) (h3 : i.zero = some z) (h4 : i.size = size) (h5 : i.bytes = bytes) (h6 : z.cells.size = size) (h7 : 0 < size)
    (v : Value) (k : Nat) (xs : List Value) (hs : a.eval s = v) (hown : w.ownsRow base e size v k xs) (ad : Addr) (m c : Nat) (news : List Value) (hx : a.eval x = .slice (some ad) m c) (hn : news.length = m * size)
    (hc : ∀ j u, news[j]? = some u → w.cell? (ad.add j) = some u) (h1c : ∀ u ∈ news, u.oneCell' = true) (b1 : k + m ≤ maxLen) (b2 : (k + m) * bytes ≤ 140737488355328) (b3 : base ≤ w.heap.size)
    (hK : ∀ v' w', w'.ownsRow base e size v' (k + m) (xs ++ news) → w.grownBy w' v.ownBlock → K (a.put o.dst v') w') :
    o.wpIn F n P a w K Q := by
  obtain ⟨v', w', hrun, r1, r2, r3⟩ := run_append_own (P := P) w base t o.type e i z size bytes h1 h2 h3 h4 h5 h6 h7 v k xs hown ad m c news hn hc h1c b1 b2 b3
  have hp := Oper.semAt_plain F a.eval o (by rw [hop]; intro c hc'; cases hc')
  refine ⟨by simp [Oper.about, hop, resolve, Target.leads, Sem.run_pure], ?_⟩
  rw [hp]
  simp [execOp, hop, resolve, invoke, builtin, hs, hx, hrun, Result.andThen]
  exact hK v' w' r1 r2

set_option maxRecDepth 100000 in
set_option maxHeartbeats 4000000 in
theorem impl_Unframe_in (s : ByteArray) (w : World) (hs : s.size ≤ 20000) (ht : Tabbed w) : Calls Tryd.prog 10 #[.string s] w (UnLeft s.data.toList w) := by
  obtain ⟨i0, hi, hz0, hz1, hz2⟩ := info_parts Tryd.infoStrF
  have hun := hide (unL_in (l := s.data.toList) hs)
  unfold UnLeft
  rw [unhide hun]
  have HT := hide ht
  clear ht
  refine (callsIn_wide (n := 6)).1 ?_
  refine callsIn_of_wp_marks Tryd.func10 rfl trivial ?_ rfl
  simp only [Tryd.ntmps10, List.size_toArray, List.length_cons, List.length_nil, Nat.reduceAdd, Nat.reduceSub, Array.replicate_succ, Array.replicate_zero, List.push_toArray, List.append_toArray, List.nil_append, List.cons_append]
  gi_wp2_with (refine ⟨trivial, ?_⟩; gi_at_call 27; refine (framesOf_in _ s _).mono ?_; rintro e w' ⟨rfl, rfl⟩)
  have bO := Boxed.new w 27 (.slice none 0 0)
  have bE := Boxed.new (w.alloc (.cells #[.slice none 0 0] 27)) 3 (.int .i64 0)
  have bS := Boxed.new ((w.alloc (.cells #[.slice none 0 0] 27)).alloc (.cells #[.int .i64 0] 3)) 9 (.string s)
  rw [World.size_alloc] at bE
  rw [World.size_alloc, World.size_alloc] at bS
  have hB0 : Below w.heap.size w (((w.alloc (.cells #[.slice none 0 0] 27)).alloc (.cells #[.int .i64 0] 3)).alloc (.cells #[.string s] 9)) := (((Below.refl _ w).alloc (Nat.le_refl _) _).alloc (by simp) _).alloc (by simp; omega) _
  have hT0 := (unhide HT).lt
  have hmx : Tryd.prog.follows .mixedOrders = true := by kernel_rfl
  refine wpIn_rangeFunc_ownG rfl (by omega) (gf := 36) (lb := #[.pointer (some ⟨w.heap.size + 1 + 1, 0, none⟩)]) rfl trivial (enters_of Tryd.func36 (by kernel_rfl) rfl)
    (frames_stops 5 (by omega) (w.heap.size + 1 + 1) w.heap.size s hs _ (by simp; omega) hT0 bS ((unhide HT).below hB0)) KpF.t (KpF.b (by simp; omega)) (Below.refl _ _) (fun _ => rfl)
    (fun pre W => (∃ v, Boxed W w.heap.size 27 v ∧ W.ownsRow (w.heap.size + 3) 9 1 v pre.length (strs (recs (pre.map frOf))) ∧ True) ∧ (Boxed W (w.heap.size + 1) 3 (.int .i64 (endL (pre.map frOf) : Int)) ∧ Boxed W (w.heap.size + 1 + 1) 9 (.string s)) ∧ Below w.heap.size w W)
    (fun _ _ _ => False)
    (OwnFrom.and (Own.from (holdsRow_own (w.heap.size + 3) w.heap.size 27 9 1 (fun (pre : List Fr) => pre.length) (fun (pre : List Fr) => strs (recs (pre.map frOf))) (fun _ _ => True)) _) (OwnFrom.and (OwnFrom.and (Own.from (boxed_own (w.heap.size + 1) 3 (fun (pre : List Fr) => .int .i64 (endL (pre.map frOf) : Int))) _) (Own.from (boxed_own (w.heap.size + 1 + 1) 9 (fun _ => .string s)) _)) (ownFrom_below (Nat.le_refl _) (by simp; omega))))
    (fun _ _ _ _ _ hs _ _ => hs)
    ⟨⟨_, (bO.alloc _).alloc _, World.ownsRow_nil _ _ _ _, trivial⟩, ⟨bE.alloc _, bS⟩, hB0⟩
    (fun x => { tmps := #[.string s, undef, .slice none 0 0, .int .i64 0, .pointer (some ⟨w.heap.size, 0, none⟩), .pointer (some ⟨w.heap.size + 1, 0, none⟩), .string x.1.1, .int .i64 (x.1.2 : Int), .string s, .int .i64 (s.size : Int), .bool (decide ((20000 : Int) < (s.size : Int))), .string s, .func (.func 36) #[] #[.pointer (some ⟨w.heap.size + 1 + 1, 0, none⟩)], .string x.1.1, .int .i64 (x.1.2 : Int), undef, undef, undef, undef, undef, undef, undef, undef], defers := [] }) ?assign ?body ?done ?stop
  case assign =>
    intro l x W K hK
    gi_wp2
    exact hK
  case body =>
    rintro l pre x W ⟨⟨v, hv, hrow, _⟩, ⟨hE, hS⟩, hB⟩ hlt
    have hx1 := x.2.1
    have hlen := frs_length s.data.toList 0
    have hls : s.data.toList.length = s.size := rfl
    have hc := hv.cell
    have qC := hide (fun W' => ((callsIn_wide (n := 3)).2 (CloneF_any x.1.1 W' (by omega))))
    have hvD : Boxed W.drew w.heap.size 27 v := hv
    have hcD := hvD.cell
    have hrowD : W.drew.ownsRow (w.heap.size + 3) 9 1 v pre.length (strs (recs (pre.map frOf))) := hrow
    gi_wp2
    refine wpIn_region_any (by assumption) ?_
    change wpAnyIn _ _ _ _ _ _ _ _ _ (World.drew _)
    refine wpAnyIn_ready (rs := [0, 1]) (by kernel_rfl) (by simp) ?_
    refine AllReadyIn.cons rfl (fun K hK => ?_) ?_
    · go_simp
      refine hK _ _ ?_
      clear hK K
      refine wpAnyIn_ready (rs := [1]) (by kernel_rfl) (by simp) ?_
      refine AllReadyIn.cons rfl (fun K hK => ?_) ?_
      · go_simp
        refine hK _ _ ?_
        clear hK K
        refine wpAnyIn_ready (rs := [2]) (by kernel_rfl) (by simp) ?_
        refine AllReadyIn.cons rfl (fun K hK => ?_) ?_
        · go_simp
          gi_wp2_with (refine ⟨trivial, ?_⟩; gi_at_call 28; refine (CallsIn.inRound l (unhide qC _)).mono ?_; rintro e w1 ⟨rfl, hb1⟩; have hv1 := boxed_below hb1 hvD; have hc1 := hv1.cell; have hc2 := fun o => (hv1.alloc o).cell; have hrow1 := own_below hrowD hb1; have hs1 : w.heap.size + 3 ≤ w1.heap.size := by (have h1 := hS.lt; have h2 : W.heap.size ≤ w1.heap.size := hb1.size; omega))
          refine wpAnyIn_ready (rs := [3]) (by kernel_rfl) (by simp) ?_
          refine AllReadyIn.cons rfl (fun K hK => ?_) ?_
          · go_simp
            refine hK _ _ ?_
            clear hK K
            refine wpAnyIn_ready (rs := [4]) (by kernel_rfl) (by simp) ?_
            refine AllReadyIn.cons rfl (fun K hK => ?_) ?_
            · rw [if_pos (by rfl)]; refine operIn_append_own _ _ _ 27 rfl (w.heap.size + 3) 9 i0 (.string ByteArray.empty) 1 16 Tryd.underlying27 hi hz0 hz1 hz2 rfl (by decide) _ _ _ rfl (hrow1.alloc _) ⟨w1.heap.size, 0, none⟩ 1 1 [.string x.1.1] rfl rfl (cell_one_new _ _ _) (by simp [Value.oneCell']) (by unfold maxLen; omega) (by omega) (by simp; omega) ?_
              intro v' w2 hown' hgrow
              obtain ⟨g', cap', rfl⟩ := ownsRow_succ hown'
              obtain ⟨hv2, hv3, hr3, hk3, hb3, ho3⟩ := appendedF hv1 (by decide) hrow1 (show w.heap.size ≤ w1.heap.size by omega) (by omega) (Nat.le_refl _) hown' hgrow
              have hc3 := hv2.cell
              have hf3 := hv2.frozen
              refine hK _ _ ?_
              clear hK K
              refine wpAnyIn_ready (rs := [5]) (by kernel_rfl) (by simp) ?_
              refine AllReadyIn.cons rfl (fun K hK => ?_) ?_
              · go_simp
                refine hK _ _ ?_
                clear hK K
                refine wpAnyIn_done (by kernel_rfl) ?_ _
                have hE3 := ho3 (w.heap.size + 1) 3 _ (by omega) (by omega) (boxed_below hb1 (show Boxed W.drew _ _ _ from hE))
                have hS3 := ho3 (w.heap.size + 1 + 1) 9 _ (by omega) (by omega) (boxed_below hb1 (show Boxed W.drew _ _ _ from hS))
                have hcE := hE3.cell
                have hfE := hE3.frozen
                gi_wp2
                have hBW := ((((Below.refl w.heap.size W).drew).trans (hb1.mono (show w.heap.size ≤ W.heap.size by have := hS.lt; omega))).trans hb3).setCell (p := ⟨w.heap.size + 1, 0, none⟩) (by simp) (.int .i64 (x.1.2 : Int))
                refine ⟨(((KeepsOthers.drew W).trans (keeps_below hb1)).trans (hk3.trans (KeepsOthers.setCell _ _ _))).from _, ⟨hBW, fun _ => Boxed.other hS3 (by omega) _⟩, ⟨_, Boxed.other hv3 (by omega) _, ?_, trivial⟩, ⟨?_, Boxed.other hS3 (by omega) _⟩, hB.trans hBW⟩
                · have := hr3.kept (grownBy_setCell' _ (w.heap.size + 1) (.int .i64 (x.1.2 : Int))) (.inr (hE3.not_row (by decide) hr3).symm)
                  rw [List.map_append, List.map_cons, List.map_nil, recs_snoc, strs_append, List.length_append]
                  exact this
                · rw [List.map_append, List.map_cons, List.map_nil, endL_snoc]
                  exact hE3.set _
              exact AllReadyIn.nil
            exact AllReadyIn.nil
          exact AllReadyIn.nil
        exact AllReadyIn.nil
      exact AllReadyIn.nil
    refine AllReadyIn.cons rfl (fun K hK => ?_) ?_
    · go_simp
      refine hK _ _ ?_
      clear hK K
      refine wpAnyIn_ready (rs := [0, 2]) (by kernel_rfl) (by simp) ?_
      refine AllReadyIn.cons rfl (fun K hK => ?_) ?_
      · go_simp
        refine hK _ _ ?_
        clear hK K
        refine wpAnyIn_ready (rs := [2]) (by kernel_rfl) (by simp) ?_
        refine AllReadyIn.cons rfl (fun K hK => ?_) ?_
        · go_simp
          gi_wp2_with (refine ⟨trivial, ?_⟩; gi_at_call 28; refine (CallsIn.inRound l (unhide qC _)).mono ?_; rintro e w1 ⟨rfl, hb1⟩; have hv1 := boxed_below hb1 hvD; have hc1 := hv1.cell; have hc2 := fun o => (hv1.alloc o).cell; have hrow1 := own_below hrowD hb1; have hs1 : w.heap.size + 3 ≤ w1.heap.size := by (have h1 := hS.lt; have h2 : W.heap.size ≤ w1.heap.size := hb1.size; omega))
          refine wpAnyIn_ready (rs := [3]) (by kernel_rfl) (by simp) ?_
          refine AllReadyIn.cons rfl (fun K hK => ?_) ?_
          · go_simp
            refine hK _ _ ?_
            clear hK K
            refine wpAnyIn_ready (rs := [4]) (by kernel_rfl) (by simp) ?_
            refine AllReadyIn.cons rfl (fun K hK => ?_) ?_
            · rw [if_pos (by rfl)]; refine operIn_append_own _ _ _ 27 rfl (w.heap.size + 3) 9 i0 (.string ByteArray.empty) 1 16 Tryd.underlying27 hi hz0 hz1 hz2 rfl (by decide) _ _ _ rfl (hrow1.alloc _) ⟨w1.heap.size, 0, none⟩ 1 1 [.string x.1.1] rfl rfl (cell_one_new _ _ _) (by simp [Value.oneCell']) (by unfold maxLen; omega) (by omega) (by simp; omega) ?_
              intro v' w2 hown' hgrow
              obtain ⟨g', cap', rfl⟩ := ownsRow_succ hown'
              obtain ⟨hv2, hv3, hr3, hk3, hb3, ho3⟩ := appendedF hv1 (by decide) hrow1 (show w.heap.size ≤ w1.heap.size by omega) (by omega) (Nat.le_refl _) hown' hgrow
              have hc3 := hv2.cell
              have hf3 := hv2.frozen
              refine hK _ _ ?_
              clear hK K
              refine wpAnyIn_ready (rs := [5]) (by kernel_rfl) (by simp) ?_
              refine AllReadyIn.cons rfl (fun K hK => ?_) ?_
              · go_simp
                refine hK _ _ ?_
                clear hK K
                refine wpAnyIn_done (by kernel_rfl) ?_ _
                have hE3 := ho3 (w.heap.size + 1) 3 _ (by omega) (by omega) (boxed_below hb1 (show Boxed W.drew _ _ _ from hE))
                have hS3 := ho3 (w.heap.size + 1 + 1) 9 _ (by omega) (by omega) (boxed_below hb1 (show Boxed W.drew _ _ _ from hS))
                have hcE := hE3.cell
                have hfE := hE3.frozen
                gi_wp2
                have hBW := ((((Below.refl w.heap.size W).drew).trans (hb1.mono (show w.heap.size ≤ W.heap.size by have := hS.lt; omega))).trans hb3).setCell (p := ⟨w.heap.size + 1, 0, none⟩) (by simp) (.int .i64 (x.1.2 : Int))
                refine ⟨(((KeepsOthers.drew W).trans (keeps_below hb1)).trans (hk3.trans (KeepsOthers.setCell _ _ _))).from _, ⟨hBW, fun _ => Boxed.other hS3 (by omega) _⟩, ⟨_, Boxed.other hv3 (by omega) _, ?_, trivial⟩, ⟨?_, Boxed.other hS3 (by omega) _⟩, hB.trans hBW⟩
                · have := hr3.kept (grownBy_setCell' _ (w.heap.size + 1) (.int .i64 (x.1.2 : Int))) (.inr (hE3.not_row (by decide) hr3).symm)
                  rw [List.map_append, List.map_cons, List.map_nil, recs_snoc, strs_append, List.length_append]
                  exact this
                · rw [List.map_append, List.map_cons, List.map_nil, endL_snoc]
                  exact hE3.set _
              exact AllReadyIn.nil
            exact AllReadyIn.nil
          exact AllReadyIn.nil
        exact AllReadyIn.nil
      refine AllReadyIn.cons rfl (fun K hK => ?_) ?_
      · go_simp
        gi_wp2_with (refine ⟨trivial, ?_⟩; gi_at_call 28; refine (CallsIn.inRound l (unhide qC _)).mono ?_; rintro e w1 ⟨rfl, hb1⟩; have hv1 := boxed_below hb1 hvD; have hc1 := hv1.cell; have hc2 := fun o => (hv1.alloc o).cell; have hrow1 := own_below hrowD hb1; have hs1 : w.heap.size + 3 ≤ w1.heap.size := by (have h1 := hS.lt; have h2 : W.heap.size ≤ w1.heap.size := hb1.size; omega))
        refine wpAnyIn_ready (rs := [0, 3]) (by kernel_rfl) (by simp) ?_
        refine AllReadyIn.cons rfl (fun K hK => ?_) ?_
        · go_simp
          refine hK _ _ ?_
          clear hK K
          refine wpAnyIn_ready (rs := [3]) (by kernel_rfl) (by simp) ?_
          refine AllReadyIn.cons rfl (fun K hK => ?_) ?_
          · go_simp
            refine hK _ _ ?_
            clear hK K
            refine wpAnyIn_ready (rs := [4]) (by kernel_rfl) (by simp) ?_
            refine AllReadyIn.cons rfl (fun K hK => ?_) ?_
            · rw [if_pos (by rfl)]; refine operIn_append_own _ _ _ 27 rfl (w.heap.size + 3) 9 i0 (.string ByteArray.empty) 1 16 Tryd.underlying27 hi hz0 hz1 hz2 rfl (by decide) _ _ _ rfl (hrow1.alloc _) ⟨w1.heap.size, 0, none⟩ 1 1 [.string x.1.1] rfl rfl (cell_one_new _ _ _) (by simp [Value.oneCell']) (by unfold maxLen; omega) (by omega) (by simp; omega) ?_
              intro v' w2 hown' hgrow
              obtain ⟨g', cap', rfl⟩ := ownsRow_succ hown'
              obtain ⟨hv2, hv3, hr3, hk3, hb3, ho3⟩ := appendedF hv1 (by decide) hrow1 (show w.heap.size ≤ w1.heap.size by omega) (by omega) (Nat.le_refl _) hown' hgrow
              have hc3 := hv2.cell
              have hf3 := hv2.frozen
              refine hK _ _ ?_
              clear hK K
              refine wpAnyIn_ready (rs := [5]) (by kernel_rfl) (by simp) ?_
              refine AllReadyIn.cons rfl (fun K hK => ?_) ?_
              · go_simp
                refine hK _ _ ?_
                clear hK K
                refine wpAnyIn_done (by kernel_rfl) ?_ _
                have hE3 := ho3 (w.heap.size + 1) 3 _ (by omega) (by omega) (boxed_below hb1 (show Boxed W.drew _ _ _ from hE))
                have hS3 := ho3 (w.heap.size + 1 + 1) 9 _ (by omega) (by omega) (boxed_below hb1 (show Boxed W.drew _ _ _ from hS))
                have hcE := hE3.cell
                have hfE := hE3.frozen
                gi_wp2
                have hBW := ((((Below.refl w.heap.size W).drew).trans (hb1.mono (show w.heap.size ≤ W.heap.size by have := hS.lt; omega))).trans hb3).setCell (p := ⟨w.heap.size + 1, 0, none⟩) (by simp) (.int .i64 (x.1.2 : Int))
                refine ⟨(((KeepsOthers.drew W).trans (keeps_below hb1)).trans (hk3.trans (KeepsOthers.setCell _ _ _))).from _, ⟨hBW, fun _ => Boxed.other hS3 (by omega) _⟩, ⟨_, Boxed.other hv3 (by omega) _, ?_, trivial⟩, ⟨?_, Boxed.other hS3 (by omega) _⟩, hB.trans hBW⟩
                · have := hr3.kept (grownBy_setCell' _ (w.heap.size + 1) (.int .i64 (x.1.2 : Int))) (.inr (hE3.not_row (by decide) hr3).symm)
                  rw [List.map_append, List.map_cons, List.map_nil, recs_snoc, strs_append, List.length_append]
                  exact this
                · rw [List.map_append, List.map_cons, List.map_nil, endL_snoc]
                  exact hE3.set _
              exact AllReadyIn.nil
            exact AllReadyIn.nil
          exact AllReadyIn.nil
        refine AllReadyIn.cons rfl (fun K hK => ?_) ?_
        · go_simp
          refine hK _ _ ?_
          clear hK K
          refine wpAnyIn_ready (rs := [0]) (by kernel_rfl) (by simp) ?_
          refine AllReadyIn.cons rfl (fun K hK => ?_) ?_
          · go_simp
            refine hK _ _ ?_
            clear hK K
            refine wpAnyIn_ready (rs := [4]) (by kernel_rfl) (by simp) ?_
            refine AllReadyIn.cons rfl (fun K hK => ?_) ?_
            · rw [if_pos (by rfl)]; refine operIn_append_own _ _ _ 27 rfl (w.heap.size + 3) 9 i0 (.string ByteArray.empty) 1 16 Tryd.underlying27 hi hz0 hz1 hz2 rfl (by decide) _ _ _ rfl (hrow1.alloc _) ⟨w1.heap.size, 0, none⟩ 1 1 [.string x.1.1] rfl rfl (cell_one_new _ _ _) (by simp [Value.oneCell']) (by unfold maxLen; omega) (by omega) (by simp; omega) ?_
              intro v' w2 hown' hgrow
              obtain ⟨g', cap', rfl⟩ := ownsRow_succ hown'
              obtain ⟨hv2, hv3, hr3, hk3, hb3, ho3⟩ := appendedF hv1 (by decide) hrow1 (show w.heap.size ≤ w1.heap.size by omega) (by omega) (Nat.le_refl _) hown' hgrow
              have hc3 := hv2.cell
              have hf3 := hv2.frozen
              refine hK _ _ ?_
              clear hK K
              refine wpAnyIn_ready (rs := [5]) (by kernel_rfl) (by simp) ?_
              refine AllReadyIn.cons rfl (fun K hK => ?_) ?_
              · go_simp
                refine hK _ _ ?_
                clear hK K
                refine wpAnyIn_done (by kernel_rfl) ?_ _
                have hE3 := ho3 (w.heap.size + 1) 3 _ (by omega) (by omega) (boxed_below hb1 (show Boxed W.drew _ _ _ from hE))
                have hS3 := ho3 (w.heap.size + 1 + 1) 9 _ (by omega) (by omega) (boxed_below hb1 (show Boxed W.drew _ _ _ from hS))
                have hcE := hE3.cell
                have hfE := hE3.frozen
                gi_wp2
                have hBW := ((((Below.refl w.heap.size W).drew).trans (hb1.mono (show w.heap.size ≤ W.heap.size by have := hS.lt; omega))).trans hb3).setCell (p := ⟨w.heap.size + 1, 0, none⟩) (by simp) (.int .i64 (x.1.2 : Int))
                refine ⟨(((KeepsOthers.drew W).trans (keeps_below hb1)).trans (hk3.trans (KeepsOthers.setCell _ _ _))).from _, ⟨hBW, fun _ => Boxed.other hS3 (by omega) _⟩, ⟨_, Boxed.other hv3 (by omega) _, ?_, trivial⟩, ⟨?_, Boxed.other hS3 (by omega) _⟩, hB.trans hBW⟩
                · have := hr3.kept (grownBy_setCell' _ (w.heap.size + 1) (.int .i64 (x.1.2 : Int))) (.inr (hE3.not_row (by decide) hr3).symm)
                  rw [List.map_append, List.map_cons, List.map_nil, recs_snoc, strs_append, List.length_append]
                  exact this
                · rw [List.map_append, List.map_cons, List.map_nil, endL_snoc]
                  exact hE3.set _
              exact AllReadyIn.nil
            exact AllReadyIn.nil
          exact AllReadyIn.nil
        exact AllReadyIn.nil
      exact AllReadyIn.nil
    exact AllReadyIn.nil
  case done =>
    rintro D ys W hD hS0 ⟨⟨v, hv, hrow, _⟩, ⟨hE, hS⟩, hB⟩ hK
    have hc := hv.cell
    have hcE := hE.cell
    gi_wp2
    gi_region_o
    all_goals gi_wp2
    have hl2 : ys.length = (frs s.data.toList 0).length := by rw [← hS0, List.length_map]
    have hK' : W.drew.heap[D]? = some (.deferred (some [])) := hK
    refine ⟨by simp, .inl ⟨_, _, rfl, run_takeDeferred hK', ?_⟩⟩
    refine ⟨_, results_tmp2 rfl _ _ _, v, rfl, ?_, ?_⟩
    · rw [hl2, hS0] at hrow
      exact ownsRow_putObj (own_lower (World.ownsRow.drew hrow) (by omega)) _ hK' rfl
    · exact hB.drew.trans (belowK_b (w := w) (Nat.le_refl _) W.drew D _ _ (by simp at hD; omega) hK' rfl rfl)
  case stop =>
    rintro D c pre W _ _ h _
    exact h.elim

set_option maxHeartbeats 1000000 in
theorem impl_Unframe_long (s : ByteArray) (w : World) (h : 20000 < s.size) (hs : s.size ≤ 1048576) : Calls Tryd.prog 10 #[.string s] w (UnLeft s.data.toList w) := by
  have e := hide (unL_long (l := s.data.toList) (by show ¬ s.size ≤ 20000; omega))
  go_enter Tryd.func10, Tryd.ntmps10
  go_wp2
  go_ret2
  refine ⟨_, by rw [unhide e]; rfl, ?_, Below.refl _ _⟩
  rw [unhide e]
  exact World.ownsRow_nil _ _ _ _

theorem impl_Unframe_any (s : ByteArray) (w : World) (hs : s.size ≤ 1048576) (ht : Tabbed w) : Calls Tryd.prog 10 #[.string s] w (UnLeft s.data.toList w) := by
  by_cases h : s.size ≤ 20000
  · exact impl_Unframe_in s w h ht
  · exact impl_Unframe_long s w (by omega) hs
end Go.Proofs.YtnlcknklghalkaaDoor
