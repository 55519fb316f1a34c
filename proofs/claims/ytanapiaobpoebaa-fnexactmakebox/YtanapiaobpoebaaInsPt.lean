/- The library's Insert over pointers to boxes, whatever the row's room. -/
import Derived.Test.YtanapiaobpoebaaInsI
import Derived.Test.YtanapiaobpoebaaInsGrow
namespace Go.Proofs.Ytanapiaobpoebaa
open Go.RowKit Go.Lib
open Plain
set_option linter.unusedVariables false
set_option linter.unusedSimpArgs false
namespace Plain
/-- Cells laid into a list. -/
def updL (l : List Value) : Nat → List Value → List Value
 | _, [] => l
 | o, v :: r => updL (l.set o v) (o + 1) r
theorem updL_is : ∀ (vs l : List Value) (o : Nat), o + vs.length ≤ l.length → updL l o vs = l.take o ++ vs ++ l.drop (o + vs.length)
 | [], l, o, h => by simp [updL]
 | v :: r, l, o, h => by
  simp only [List.length_cons] at h
  unfold updL
  rw [updL_is r (l.set o v) (o + 1) (by rw [List.length_set]; omega)]
  rw [List.take_add_one, List.getElem?_set_self (by omega), List.take_set_of_le (by omega), List.drop_set_of_lt (by omega)]
  simp only [Option.toList_some, List.append_assoc, List.length_cons, List.cons_append, List.nil_append]
  rw [show o + 1 + r.length = o + (r.length + 1) by omega]
end Plain
theorem HasObj.sets {b : Nat} {t : TypeId} : ∀ (vs l : List Value) (o : Nat) {W : World}, HasObj W b t l → HasObj (W.setCells b o vs) b t (updL l o vs)
 | [], l, o, W, h => h
 | v :: r, l, o, W, h => HasObj.sets r (l.set o v) (o + 1) (h.set o v)
theorem g_sets {b : Nat} {w : World} : ∀ (vs : List Value) (o : Nat) {W : World}, w.grownBy W (some b) → w.grownBy (W.setCells b o vs) (some b)
 | [], o, W, h => h
 | v :: r, o, W, h => g_sets r (o + 1) (g_store h v)
theorem pt_list (l : List Nat) : rowC ptC l = l.map (fun g => Value.pointer (some ⟨g, 0, none⟩)) := by
 induction l with
 | nil => rfl
 | cons x l ih => simp only [rowC, List.flatMap_cons, List.map_cons] at *; rw [ih]; rfl
theorem put_rows {cur : List Value} {l : List Nat} {i g n : Nat} (hn : l.length = n) (hi : i ≤ n) (hc : n + 1 ≤ cur.length) (ht : cur.take i = (rowC ptC l).take i) :
  (updL (updL cur (i + 1) ((rowC ptC l).drop i)) i [.pointer (some ⟨g, 0, none⟩)]).take (n + 1) = rowC ptC (l.take i ++ g :: l.drop i) := by
 have hl : (rowC ptC l).length = n := by rw [pt_list, List.length_map, hn]
 have h1 : ((rowC ptC l).drop i).length = n - i := by rw [List.length_drop, hl]
 rw [updL_is _ cur (i + 1) (by omega), updL_is _ _ i (by simp; omega)]
 have e1 : (cur.take (i + 1)).length = i + 1 := by rw [List.length_take]; omega
 rw [List.append_assoc (cur.take (i + 1)), List.take_append_of_le_length (l₁ := cur.take (i + 1)) (by omega), List.take_take, Nat.min_eq_left (by omega), ht]
 rw [show i + [Value.pointer (some ⟨g, 0, none⟩)].length = (cur.take (i + 1)).length by rw [e1]; rfl, List.drop_left]
 rw [pt_list, pt_list, List.map_append, List.map_cons, List.map_take, List.map_drop]
 rw [List.append_assoc, List.take_append, List.take_of_length_le (by rw [List.length_take]; omega)]
 congr 1
 rw [List.length_take, List.length_map, hn, Nat.min_eq_left hi, List.singleton_append, show n + 1 - i = (n - i) + 1 by omega, List.take_succ_cons]
 congr 1
 rw [List.take_append_of_le_length (by rw [List.length_drop, List.length_map]; omega), List.take_of_length_le (by rw [List.length_drop, List.length_map]; omega)]
theorem updL_len : ∀ (vs l : List Value) (o : Nat), (updL l o vs).length = l.length
 | [], l, o => rfl
 | v :: r, l, o => by unfold updL; rw [updL_len r, List.length_set]
theorem put_rows2 {cur : List Value} {l : List Nat} {i g n : Nat} (hn : l.length = n) (hi : i ≤ n) (hc : n + 1 ≤ cur.length) (ht : cur.take i = (rowC ptC l).take i) :
  (updL (updL cur i [.pointer (some ⟨g, 0, none⟩)]) (i + 1) ((rowC ptC l).drop i)).take (n + 1) = rowC ptC (l.take i ++ g :: l.drop i) := by
 have hl : (rowC ptC l).length = n := by rw [pt_list, List.length_map, hn]
 have h1 : ((rowC ptC l).drop i).length = n - i := by rw [List.length_drop, hl]
 rw [updL_is _ _ (i + 1) (by rw [updL_len]; omega), updL_is _ cur i (by simp; omega)]
 have e1 : (cur.take i ++ [Value.pointer (some ⟨g, 0, none⟩)]).length = i + 1 := by rw [List.length_append, List.length_take]; simp; omega
 have eA : ∀ X : List Value, (cur.take i ++ [Value.pointer (some ⟨g, 0, none⟩)] ++ X).take (i + 1) = cur.take i ++ [Value.pointer (some ⟨g, 0, none⟩)] := fun X => by rw [← e1, List.take_left]
 have eB : (cur.take i ++ [Value.pointer (some ⟨g, 0, none⟩)] ++ (rowC ptC l).drop i).length = n + 1 := by rw [List.length_append, e1, h1]; omega
 have eC : ∀ Y : List Value, (cur.take i ++ [Value.pointer (some ⟨g, 0, none⟩)] ++ (rowC ptC l).drop i ++ Y).take (n + 1) = cur.take i ++ [Value.pointer (some ⟨g, 0, none⟩)] ++ (rowC ptC l).drop i := fun Y => by rw [← eB, List.take_left]
 rw [eA, eC, ht]
 rw [pt_list, pt_list, List.map_append, List.map_cons, List.map_take, List.map_drop, List.append_assoc]
 rfl
theorem below_sets {b B : Nat} {w : World} (hb : B ≤ b) : ∀ (vs : List Value) (o : Nat) {W : World}, Below B w W → Below B w (W.setCells b o vs)
 | [], o, W, h => h
 | v :: r, o, W, h => below_sets hb r (o + 1) (h.setCell (p := ⟨b, o, none⟩) hb v)
theorem pt_one {l : List Nat} : ∀ v ∈ rowC ptC l, v.oneCell' = true := fun v hv => by
 rw [pt_list] at hv
 obtain ⟨g, _, rfl⟩ := List.mem_map.1 hv
 rfl
set_option maxRecDepth 100000 in
theorem insertPt (l : List Nat) (v : Value) (B g vb i : Nat) (w : World) (hs : l.length ≤ 1000) (h : OwnPt B w v l) (hv : HasObj w vb 52 [.pointer (some ⟨g, 0, none⟩)]) (hB : B ≤ w.heap.size) (hi : i ≤ l.length) (hne : v.ownBlock ≠ some vb) :
  Calls Try.prog 37 #[v, .int .i64 (i : Int), .slice (some ⟨vb, 0, none⟩) 1 1] w fun e w' => ∃ v', e = .returned v' ∧ OwnPt B w' v' (l.take i ++ g :: l.drop i) ∧ w.grownBy w' v.ownBlock := by
 rcases Nat.lt_or_ge i l.length with hlt | hge
 ·rcases h.2 with ⟨_, h0⟩ | ⟨b, cap, cur, rfl, hbB, hh, hnc, hcm, hcs, htk⟩
  ·omega
  ·rw [Nat.mul_one] at hcs htk
   have hO : HasObj w b 52 cur.toList := by unfold HasObj; rw [hh]
   have hl : cur.toList.length = cap := by rw [Array.length_toList, hcs]
   have hcl : (rowC ptC l).length = l.length := by rw [pt_list, List.length_map]
   have hcell : ∀ j v, (rowC ptC l)[j]? = some v → w.cell? ⟨b, j, none⟩ = some v := fun j v hj => hO.cell j (by
    rw [← htk, List.getElem?_take] at hj
    split at hj
    ·exact hj
    ·cases hj)
   have hb : vb ≠ b := fun e => hne (by rw [e]; rfl)
   have hlen : (l.take i ++ g :: l.drop i).length = l.length + 1 := by simp; omega
   by_cases hcap : cap = l.length
   ·subst hcap
    refine (insertGrow b l.length i vb g (rowC ptC l) w hlt (by omega) hcl hcell hv pt_one).mono ?_
    rintro e w' ⟨G, ROW, hG1, hG2, hRs, hRt, rfl, rfl⟩
    have hN : HasObj ((w.alloc (.cells ROW 52)).drew) w.heap.size 52 ROW.toList := by
     have := HasObj.new w 52 ROW.toList
     exact this
    have hS : HasObj _ w.heap.size 52 _ := HasObj.sets ((rowC ptC l).drop i) _ (i + 1) (W := ((w.alloc (.cells ROW 52)).drew.setCells w.heap.size i [.pointer (some ⟨g, 0, none⟩)]).drew) (HasObj.sets [.pointer (some ⟨g, 0, none⟩)] _ i hN)
    refine ⟨_, rfl, ⟨?_, .inr ⟨w.heap.size, G, (updL (updL ROW.toList i [.pointer (some ⟨g, 0, none⟩)]) (i + 1) ((rowC ptC l).drop i)).toArray, by rw [hlen], hB, hS, by rw [hlen]; exact hG1, hG2, ?_, ?_⟩⟩, ?_⟩
    ·rw [pt_list, List.length_map, Nat.mul_one]
    ·rw [Nat.mul_one, List.size_toArray, updL_len, updL_len, Array.length_toList, hRs]
    ·rw [hlen, Nat.mul_one]
     refine put_rows2 rfl (by omega) (by rw [show ROW.toList.length = ROW.size from Array.length_toList, hRs]; exact hG1) ?_
     apply List.ext_getElem (by rw [List.length_take, List.length_take, Array.length_toList, hRs, hcl]; omega)
     intro j hj1 hj2
     have h9 := hRt j _ (List.getElem?_eq_getElem hj2)
     rw [List.getElem_take]
     rw [← Array.getElem?_toList, List.getElem?_eq_some_iff] at h9
     exact h9.2
    ·exact g_grown (below_sets (Nat.le_refl _) _ _ (below_sets (Nat.le_refl _) _ _ ((Below.refl _ _).alloc (Nat.le_refl _) _).drew).drew) _
   ·refine (insertShift b l.length cap i vb g (rowC ptC l) w hlt (by omega) (by unfold maxLen at hcm; omega) hb hcl hcell (fun j hj => by rw [hO.cell j (List.getElem?_eq_getElem (by rw [hl]; omega))]; rfl) (fun j => hO.frozen j) hv pt_one 52 cur.size (by simp [World.shape?, hh]) (by omega) 52 1 (by unfold HasObj at hv; simp [World.shape?, hv])).mono ?_
    rintro e w' ⟨rfl, rfl⟩
    have hS : HasObj _ b 52 _ := HasObj.sets [.pointer (some ⟨g, 0, none⟩)] _ i (HasObj.sets ((rowC ptC l).drop i) _ (i + 1) (W := w.drew) hO)
    refine ⟨_, rfl, ⟨?_, .inr ⟨b, cap, (updL (updL cur.toList (i + 1) ((rowC ptC l).drop i)) i [.pointer (some ⟨g, 0, none⟩)]).toArray, by rw [hlen], hbB, hS, by rw [hlen]; omega, hcm, ?_, ?_⟩⟩, ?_⟩
    ·rw [pt_list, List.length_map, Nat.mul_one]
    ·rw [Nat.mul_one, List.size_toArray, updL_len, updL_len, hl]
    ·rw [hlen, Nat.mul_one]
     refine put_rows rfl (by omega) (by rw [hl]; omega) ?_
     rw [← htk, List.take_take, Nat.min_eq_left (by omega)]
    ·exact g_sets _ _ (g_sets _ _ (show w.grownBy w.drew (some b) from ⟨rfl, rfl, rfl, Nat.le_refl _, fun _ _ _ => rfl⟩))
 ·obtain rfl : i = l.length := by omega
  refine (insertEnd l v B g vb w hs h hv hB).mono ?_
  rintro e w' ⟨v', rfl, o, hg⟩
  rw [List.take_length, List.drop_length]
  exact ⟨_, rfl, o, hg⟩
end Go.Proofs.Ytanapiaobpoebaa
