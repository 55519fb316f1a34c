/- Mails by their subjects: the program's mailsIn, sortedIn and SortBySubject. Made by gen_sbi.py. -/
import Derived.Test.YtihdgfihdecalaaGreatDoorSbSort
import Derived.Test.YtihdgfihdecalaaGreatDoorSbHead
import Derived.Test.YtihdgfihdecalaaGreatDoorSbS
import Derived.Test.YtihdgfihdecalaaGreatDoorElM
import Derived.Test.YtihdgfihdecalaaGreatDoorBoxI
import Derived.Test.YtihdgfihdecalaaGreatDoorIsA
import Derived.Test.YtihdgfihdecalaaGreatDoorVwA
namespace Go.Proofs.YtihdgfihdecalaaGreatDoor
open Go.RowKit Go.Sort Go.Shelf
open Plain
set_option linter.unusedVariables false
set_option linter.unusedSimpArgs false
attribute [local go_sem] cell_of frozen_of
namespace Plain
def tt0 : Tt := ⟨[], 0⟩
def laidT (T : List Tt) (k : Nat) : List Tt := T.take k ++ List.replicate (T.length - k) tt0
theorem laidT_len {T : List Tt} {k : Nat} (h : k ≤ T.length) : (laidT T k).length = T.length := by unfold laidT; rw [List.length_append, List.length_take, List.length_replicate]; omega
theorem laidT_set {T : List Tt} {k : Nat} {x : Tt} (h : T[k]? = some x) : (laidT T k).set k x = laidT T (k + 1) := by
  have hk := (List.getElem?_eq_some_iff.1 h).1
  unfold laidT
  rw [List.set_append_right _ _ (by rw [List.length_take]; omega), List.length_take, Nat.min_eq_left (by omega), Nat.sub_self, show T.length - k = (T.length - (k + 1)) + 1 by omega, List.replicate_succ, List.set_cons_zero, List.take_add_one, h]
  simp
theorem laidT_all (T : List Tt) : laidT T T.length = T := by unfold laidT; rw [List.take_length, Nat.sub_self]; simp
theorem selM_yes {s : List Rg} {l : List Ml} {k : Nat} {m : Ml} (h : l[k]? = some m) (hh : hasB s m.uid = true) : selM s (l.take (k + 1)) = selM s (l.take k) ++ [m] := by unfold selM; rw [List.take_add_one, h, List.filter_append]; simp [hh]
theorem selM_no {s : List Rg} {l : List Ml} {k : Nat} {m : Ml} (h : l[k]? = some m) (hh : hasB s m.uid = false) : selM s (l.take (k + 1)) = selM s (l.take k) := by unfold selM; rw [List.take_add_one, h, List.filter_append]; simp [hh]
theorem selM_len (s : List Rg) (l : List Ml) (k : Nat) : (selM s (l.take k)).length ≤ k := by unfold selM; exact Nat.le_trans (List.length_filter_le _ _) (by rw [List.length_take]; omega)
theorem selM_all (s : List Rg) (l : List Ml) : selM s (l.take l.length) = selM s l := by rw [List.take_length]
theorem sorted_of {T t : List Tt} (hu : T.Pairwise (fun x y => x.uid < y.uid)) (hp : t.Perm T) (hs : t.Pairwise (fun x y => ¬ ltT y x)) : SortedT t := by
  have hne : t.Pairwise (fun x y => x.uid ≠ y.uid) := (hp.pairwise_iff (fun {x y} h => fun e => h e.symm)).2 (hu.imp fun h => Int.ne_of_lt h)
  rw [SortedT, List.pairwise_iff_getElem]
  rw [List.pairwise_iff_getElem] at hs hne
  intro i j hi hj hij
  have h1 := hs i j hi hj hij
  have h2 := hne i j hi hj hij
  unfold ltT at h1 ⊢
  by_cases a : bl t[i].base t[j].base = true
  · exact .inl a
  · have b : ¬ bl t[j].base t[i].base = true := fun q => h1 (.inl q)
    have e := bl_tri _ _ a b
    refine .inr ⟨e, ?_⟩
    have c : ¬ t[j].uid < t[i].uid := fun q => h1 (.inr ⟨e.symm, q⟩)
    omega
end Plain
theorem SeeMl.rise {w W : World} {a : Option Addr} {l : List Ml} (h : SeeMl w a l) (hb : Below w.heap.size w W) : SeeMl W a l := fun k f hf => by
  obtain ⟨g, e, ⟨c0⟩, ⟨c1⟩, ⟨c2⟩, ⟨c3⟩⟩ := h k f hf
  exact ⟨g, e, ⟨(hb.cell (p := ⟨g, k * 4, none⟩) (World.block_lt_of_cell? w _ c0)).trans c0⟩, ⟨(hb.cell (p := ⟨g, k * 4 + 1, none⟩) (World.block_lt_of_cell? w _ c1)).trans c1⟩, ⟨(hb.cell (p := ⟨g, k * 4 + 2, none⟩) (World.block_lt_of_cell? w _ c2)).trans c2⟩, ⟨(hb.cell (p := ⟨g, k * 4 + 3, none⟩) (World.block_lt_of_cell? w _ c3)).trans c3⟩⟩
/-- A piece is written by a call: the others lie as they lay. -/
theorem Mem.lose {w W W' : World} {L K : List Pc} (M : Mem w W L) (p : Pc) [h : Rem L p K] (hg : W.grownBy W' p.blk) : Mem w W' K := by
  have M2 : Mem w W (p :: K) := M.perm h.out
  have hp := M2.lies p (by simp)
  have hc := List.pairwise_cons.1 M2.apart
  exact ⟨⟨hg.os.trans M.below.os, hg.tape.trans M.below.tape, hg.output.trans M.below.output, Nat.le_trans M.size hg.size, fun k hk => (hg.block k (Nat.lt_of_lt_of_le hk M.size) (fun e => by have := (hp.lt k e.symm).1; omega)).trans (M.below.block k hk)⟩,
    fun x hx => (M2.lies x (by simp [hx])).keep fun k hk => hg.block k ((M2.lies x (by simp [hx])).lt k hk).2 (fun e => hc.1 x hx k e.symm hk), hc.2⟩
set_option maxHeartbeats 4000000 in
set_option maxRecDepth 100000 in
theorem mailsIn_mem (l : List Ml) (am : Option Addr) (cm g : Nat) (s : List Rg) (vs : Value) (w : World) (hl : l.length ≤ 1000) (hs : s.length ≤ 1048576) (c4 : HasCell w g 4 (.slice am l.length cm)) (hS : SeeMl w am l) (hR : ReadO w vs s) :
    Calls Tryz.prog 51 #[.pointer (some ⟨g, 0, none⟩), vs] w fun e w' => ∃ a c, e = .returned (.slice a (selM s l).length c) ∧ Mem w w' [rowMl a c (selM s l)] := by
  have HS := hide hS
  have HR : Hid (∀ W, Below w.heap.size w W → ReadO W vs s) := fun W hb => hR.up hb
  have M := Mem.start w
  clear hS hR
  go_enter Tryz.func51, Tryz.ntmps51
  go_wp2
  go_loopw [5, 13] (fun v i W => ∃ (k cv : Nat) (av : Option Addr), k ≤ l.length ∧ v = .slice av (selM s (l.take k)).length cv ∧ i = .int .i64 k ∧ Mem w W [rowMl av cv (selM s (l.take k))]) (fun _ i _ => l.length - (intOf i).toNat)
  case atStart => exact ⟨0, 0, none, Nat.zero_le _, rfl, rfl, Mem.nil _ _⟩
  case round =>
    obtain ⟨k, cv, av, hk, rfl, rfl, M⟩ := hrel
    by_cases hlt : k < l.length
    · have hm := List.getElem?_eq_getElem hlt
      obtain ⟨gm, rfl, m0, m1, m2, m3⟩ := unhide HS k _ hm
      have HK : Hid (k < l.length) := hlt
      have HY := hide (fun h => selM_yes (s := s) hm h)
      have HN := hide (fun h => selM_no (s := s) hm h)
      generalize l[k] = f at *
      have LN : (selM s (l.take k)).length ≤ 1000 := Nat.le_trans (selM_len s l k) (by omega)
      clear hm
      go_wp2_with fail
      refine Calls.mono (impl_SetHas_any s vs f.uid _ hs ?_) ?_
      · exact unhide HR _ (Mem.here _)
      rintro e w3 ⟨rfl, hb⟩
      have M := Mem.go hb
      clear hb
      cases hh : hasB s f.uid with
      | false =>
        have HE := hide (unhide HN hh)
        clear HY HN hh
        go_wp2
        go_roundw
        case rel => exact ⟨k + 1, cv, av, unhide HK, by rw [unhide HE], by go_num, by rw [unhide HE]; exact Mem.fin⟩
        case measure => have := unhide HK; simp [intOf]; omega
      | true =>
        have HE := hide (unhide HY hh)
        have HC : Hid (rowC mlC (selM s (l.take k) ++ [f]) = rowC mlC (selM s (l.take k)) ++ [.int .i64 f.uid, .int .i64 f.flags, .int .i64 f.mod, .string f.text]) := by show _ = _; rw [rowC_snoc]; rfl
        clear HY HN hh
        go_wp2_with (refine mem_append_l rfl (.tmp 21) (.tmp 23) 31 (rowC mlC (selM s (l.take k))) _ [.int .i64 f.uid, .int .i64 f.flags, .int .i64 f.mod, .string f.text] rfl rfl rfl (by simp [Value.oneCell']) (by rfl) (by omega) (by decide) ?_; intro g2 cap w7 M; try dsimp only at M)
        go_roundw
        case rel => exact ⟨k + 1, cap, some ⟨g2, 0, none⟩, unhide HK, by rw [unhide HE, List.length_append, List.length_singleton], by go_num, by
          rw [unhide HE]
          show Mem w _ [.row (some ⟨g2, 0, none⟩) (selM s (l.take k) ++ [f]).length cap 55 4 (rowC mlC (selM s (l.take k) ++ [f]))]
          rw [unhide HC, List.length_append, List.length_singleton]
          exact Mem.fin⟩
        case measure => have := unhide HK; simp [intOf]; omega
    · obtain rfl : k = l.length := by omega
      rw [selM_all] at M ⊢
      go_wp2
      go_ret
      exact ⟨av, cv, rfl, Mem.fin⟩
theorem Tryz.infoTitled : (Tryz.prog.info? 66).map (fun i => (i.zero, i.size, i.bytes)) = some (some (.agg #[.string ByteArray.empty, .int .i64 0]), 2, 24) := by kernel_rfl
theorem Tryz.infoIntB : (Tryz.prog.info? 3).map (fun i => (i.zero, i.size, i.bytes)) = some (some (.int .i64 0), 1, 8) := by kernel_rfl
def subV (b : Bx) (s : List Rg) : List Tt := if boxOk b = true then sortT (selT s b.mails) else []
set_option maxHeartbeats 16000000 in
set_option maxRecDepth 100000 in
theorem sortedIn_any (b : Bx) (am at1 : Option Addr) (cm ct B : Nat) (s : List Rg) (vs : Value) (w : World) (hf : FitBx b) (hs : s.length ≤ 1048576) (hR : ReadO w vs s) (h : OwnBx B w (.slice am b.mails.length cm) (.slice at1 b.tombs.length ct) b) (X : List Tt) (hX : X = subV b s) :
    Calls Tryz.prog 31 #[boxV b (.slice am b.mails.length cm) (.slice at1 b.tombs.length ct), vs] w fun e w' => ∃ a c, e = .returned (.slice a X.length c) ∧ SeeTt w' a X ∧ Mem w w' [] := by
  have HB := hide h
  have HF := hide hf
  have HX := hide hX
  have HR : Hid (∀ W, Below w.heap.size w W → ReadO W vs s) := fun W hb => hR.up hb
  have HS := hide (OwnMl.see h.1)
  have M := Mem.start w
  clear h hf hX hR
  go_enter Tryz.func31, Tryz.ntmps31
  go_wp2_with fail
  refine (impl_BoxOk_any b _ _ B _ (unhide HF) ((unhide HB).up (Mem.here _))).mono ?_
  rintro e w2 ⟨rfl, hb⟩
  have M := Mem.go hb
  clear hb
  cases h1 : boxOk b with
  | false =>
    have hx : X = [] := by rw [unhide HX]; unfold subV; rw [if_neg (by rw [h1]; decide)]
    clear HX
    subst hx
    go_wp2
    go_ret
    exact ⟨none, 0, rfl, fun k x hx => by simp at hx, Mem.fin⟩
  | true =>
  have hl := (head_parts (boxOk_iff.1 h1).1).2.2.2.2.1
  have UP := hide (selT_up (s := s) h1 b.mails.length)
  rw [selT_all] at UP
  have hx : X = sortT (selT s b.mails) := by rw [unhide HX]; unfold subV; rw [if_pos h1]
  have HX := hide hx
  clear hx h1
  go_wp2_with fail
  refine Calls.mono (mailsIn_mem b.mails am cm w.heap.size s vs _ (by omega) hs inferInstance ?_ ?_) ?_
  · exact (unhide HS).rise (Mem.here _)
  · exact unhide HR _ (Mem.here _)
  rintro e w3 ⟨aM, cM, rfl, MN⟩
  have M := Mem.then MN
  clear MN
  have HTX : Hid (∀ m ∈ selM s b.mails, m.text.size ≤ 1048576) := fun m hm => (unhide HF).texts m (List.mem_filter.1 hm).1
  have hn30 : (selM s b.mails).length ≤ 30 := Nat.le_trans (List.length_filter_le _ _) hl
  obtain ⟨l, hl2⟩ : ∃ l, l = selM s b.mails := ⟨_, rfl⟩
  have HT : Hid (selT s b.mails = l.map ttOf) := by show _ = _; rw [hl2]; rfl
  rw [← hl2] at M HTX hn30 ⊢
  clear hl2
  obtain ⟨i0, hi, hz0, hz1, hz2⟩ := info_parts Tryz.infoTitled
  obtain ⟨n, hn⟩ : ∃ n, n = l.length := ⟨_, rfl⟩
  have HN : Hid (n = l.length) := hn
  have M : Mem w w3 [.row aM n cM 55 4 (rowC mlC l), .obj w.heap.size 34 [.string b.name, .int .i64 b.valid, .int .i64 b.next, .int .i64 b.mod, .slice am b.mails.length cm, .slice at1 b.tombs.length ct, .int .i64 b.hor]] := by rw [hn]; exact M
  rw [← hn] at hn30 ⊢
  clear hn
  obtain ⟨T, hT⟩ : ∃ T, T = l.map ttOf := ⟨_, rfl⟩
  have HTT : Hid (T = l.map ttOf) := hT
  have HTL : Hid (T.length = n) := by show _ = _; rw [hT, List.length_map]; exact (unhide HN).symm
  have UT : Hid (T.Pairwise (fun x y => x.uid < y.uid)) := by rw [hT, ← unhide HT]; exact unhide UP
  have HX2 : Hid (X = sortT T) := by show _ = _; rw [unhide HX, unhide HT, hT]
  clear hT UP HX HB
  go_wp2_with (refine wpList_make_full _ rfl _ _ 63 rfl _ 66 i0 _ 2 Tryz.underlying63 hi hz0 hz1 .i64 .i64 _ _ n rfl rfl rfl rfl (by rw [hz2]; omega) (by unfold maxLen; omega) (Nat.le_refl _) ?_; intro wm hown hgm; have M := Mem.then (Mem.of_row hown (g_below hgm)))
  have hmade : (madeCells (Value.agg #[.string ByteArray.empty, .int .i64 0]).cells (n * 2)).toList = rowC ttC (laidT T 0) := by
    rw [rowC_made (enc := ttC) (k := 2) (fun _ => rfl) (by decide) (a0 := tt0) rfl n]
    unfold laidT
    rw [unhide HTL]
    rfl
  rw [hmade] at M
  clear hmade hown hgm hi hz0 hz1 hz2
  obtain ⟨gN, hgN⟩ : ∃ g, g = w3.heap.size := ⟨_, rfl⟩
  try rw [← hgN] at M ⊢
  clear hgN
  go_wp2
  go_loopw [18] (fun i W => ∃ k : Nat, k ≤ n ∧ i = .int .i64 k ∧ Mem w W [.row (some ⟨gN, 0, none⟩) n n 66 2 (rowC ttC (laidT T k)), .row aM n cM 55 4 (rowC mlC l), .obj w.heap.size 34 [.string b.name, .int .i64 b.valid, .int .i64 b.next, .int .i64 b.mod, .slice am b.mails.length cm, .slice at1 b.tombs.length ct, .int .i64 b.hor]]) (fun i _ => n - (intOf i).toNat)
  case atStart => exact ⟨0, Nat.zero_le _, rfl, Mem.fin⟩
  case round =>
    obtain ⟨k, hk, rfl, M⟩ := hrel
    by_cases hlt : k < n
    · obtain ⟨gm, rfl⟩ := M.addr (.row aM n cM 55 4 (rowC mlC l)) rfl (by omega)
      have hll : k < l.length := by rw [← unhide HN]; exact hlt
      have hm := List.getElem?_eq_getElem hll
      have HTF : Hid (l[k].text.size ≤ 1048576) := unhide HTX _ (List.getElem_mem hll)
      have HTK : Hid (T[k]? = some (ttOf l[k])) := by show _ = _; rw [unhide HTT, List.getElem?_map, hm]; rfl
      have e0 : Elt (rowC mlC l) (k * 4) (.int .i64 l[k].uid) := ⟨by have := rowC_get (enc := mlC) (k := 4) (fun _ => rfl) hm (j := 0) (by decide); rw [Nat.add_zero] at this; exact this⟩
      have e1 : Elt (rowC mlC l) (k * 4 + 1) (.int .i64 l[k].flags) := ⟨rowC_get (enc := mlC) (k := 4) (fun _ => rfl) hm (j := 1) (by decide)⟩
      have e2 : Elt (rowC mlC l) (k * 4 + 2) (.int .i64 l[k].mod) := ⟨rowC_get (enc := mlC) (k := 4) (fun _ => rfl) hm (j := 2) (by decide)⟩
      have e3 : Elt (rowC mlC l) (k * 4 + 3) (.string l[k].text) := ⟨rowC_get (enc := mlC) (k := 4) (fun _ => rfl) hm (j := 3) (by decide)⟩
      have HNE : Hid (((rowC ttC (laidT T k)).set (k * 2) (.string ⟨(baseP l[k].text).toArray⟩)).set (k * 2 + 1) (.int .i64 l[k].uid) = rowC ttC (laidT T (k + 1))) := by
        show _ = _
        have hlk : k < (laidT T k).length := by rw [laidT_len (by rw [unhide HTL]; exact hk), unhide HTL]; exact hlt
        have hy := List.getElem?_eq_getElem hlk
        have q1 := rowC_set (enc := ttC) (k := 2) (fun _ => rfl) hy (j := 0) (by decide) (⟨baseP l[k].text, (laidT T k)[k].uid⟩ : Tt) (.string ⟨(baseP l[k].text).toArray⟩) rfl
        rw [Nat.add_zero] at q1
        rw [q1, rowC_set2 (enc := ttC) (k := 2) (fun _ => rfl) hy (⟨baseP l[k].text, (laidT T k)[k].uid⟩ : Tt) (j := 1) (by decide) (ttOf l[k]) (.int .i64 l[k].uid) rfl, laidT_set (unhide HTK)]
      obtain ⟨y0, f0⟩ := Elt.some (xs := rowC ttC (laidT T k)) (j := k * 2) (by rw [rowC_len (k := 2) (fun _ => rfl), laidT_len (by rw [unhide HTL]; exact hk), unhide HTL]; omega)
      obtain ⟨y1, f1⟩ := Elt.some (xs := rowC ttC (laidT T k)) (j := k * 2 + 1) (by rw [rowC_len (k := 2) (fun _ => rfl), laidT_len (by rw [unhide HTL]; exact hk), unhide HTL]; omega)
      have HBF := hide (fun W => baseOf_any l[k] W (unhide HTF))
      generalize l[k] = f at *
      clear hm
      go_wp2
      refine mb 14 (fun M => ?_)
      refine tm 0 21 ?_; refine tm 1 22 ?_; refine tm 2 23 ?_; refine tm 3 24 ?_; refine tm 4 25 ?_; refine tm 5 26 ?_; refine tm 7 28 ?_; refine tm 8 29 ?_; refine tm 9 30 ?_; refine tm 10 31 ?_; refine tm 11 32 ?_
      refine tc 6 27 (unhide HBF _) ?_
      rintro e w6 ⟨rfl, MN⟩
      have M := Mem.then MN
      clear MN
      refine tce ?_
      refine tm 12 33 ?_; refine tm 13 34 ?_
      refine tl 14 fun K hK => ?_
      go_simp
      refine hK.out _ _ ?_
      clear hK K
      try simp only [Act.put, p1, p2, p3]
      refine td ?_
      go_wp2
      go_roundw
      case rel => exact ⟨k + 1, by omega, by go_num, by rw [← unhide HNE]; exact Mem.fin⟩
      case measure => simp [intOf]; omega
    · have HSF : Hid (∀ W, OwnTt w.heap.size W (.slice (some ⟨gN, 0, none⟩) n n) T → Calls Tryz.prog 53 #[.slice (some ⟨gN, 0, none⟩) n n, .func (.func 54) #[] #[]] W fun e w' => e = .returned (.tuple #[]) ∧ (∃ t : List Tt, t.Perm T ∧ t.Pairwise (fun x y => ¬ ltT y x) ∧ SeeTt w' (some ⟨gN, 0, none⟩) t) ∧ W.grownBy w' (some gN)) := fun W ho => by
        have q := sortFunc_any T gN n w.heap.size W (by rw [unhide HTL]; omega)
        rw [unhide HTL] at q
        exact (q ho).mono fun e w' ⟨a, b, _, d⟩ => ⟨a, b, d⟩
      obtain rfl : k = n := by omega
      have hla : Hid (laidT T k = T) := by show _ = _; rw [← unhide HTL]; exact laidT_all T
      rw [unhide hla] at M
      have HO : Hid (OwnTt w.heap.size wr (.slice (some ⟨gN, 0, none⟩) k k) T) := by
        show OwnTt _ _ _ _
        unfold OwnTt
        rw [unhide HTL]
        exact M.get (.row (some ⟨gN, 0, none⟩) k k 66 2 (rowC ttC T))
      go_wp2_with fail
      refine Calls.mono (unhide HSF _ ?_) ?_
      · exact unhide HO
      rintro e w7 ⟨rfl, ⟨t, hp, hso, hsee⟩, hg⟩
      have M := Mem.lose M (.row (some ⟨gN, 0, none⟩) k k 66 2 (rowC ttC T)) hg
      have hx : X = t := by rw [unhide HX2]; exact (sortT_is (unhide UT) hp (sorted_of (unhide UT) hp hso)).symm
      have hlen : Hid (t.length = k) := by show _ = _; rw [hp.length_eq, unhide HTL]
      have SE := hide hsee
      subst hx
      clear hp hso hg HSF HO hsee
      go_wp2
      go_ret
      exact ⟨some ⟨gN, 0, none⟩, k, by rw [unhide hlen]; rfl, unhide SE, Mem.fin⟩
set_option maxHeartbeats 16000000 in
set_option maxRecDepth 100000 in
theorem impl_SortBySubject_any (b : Bx) (am at1 : Option Addr) (cm ct B : Nat) (s : List Rg) (vs : Value) (w : World) (hf : FitBx b) (hs : s.length ≤ 1048576) (hR : ReadO w vs s) (h : OwnBx B w (.slice am b.mails.length cm) (.slice at1 b.tombs.length ct) b) (X : List Int) (hX : X = sbV b s) :
    Calls Tryz.prog 10 #[boxV b (.slice am b.mails.length cm) (.slice at1 b.tombs.length ct), vs] w fun e w' => ∃ a c, e = .returned (.slice a X.length c) ∧ Mem w w' [.row a X.length c 3 1 (intsC X)] := by
  obtain ⟨i0, hi, hz0, hz1, hz2⟩ := info_parts Tryz.infoIntB
  have HB := hide h
  have HR : Hid (∀ W, Below w.heap.size w W → ReadO W vs s) := fun W hb => hR.up hb
  obtain ⟨S, hS⟩ : ∃ S, S = subV b s := ⟨_, rfl⟩
  have HX : Hid (X = S.map (·.uid)) := by show _ = _; rw [hX, hS]; unfold sbV subV; split <;> rfl
  have HS30 : Hid (S.length ≤ 1048576) := by
    show _ ≤ _
    rw [hS]
    unfold subV
    split
    · rename_i h1
      have hl := (head_parts (boxOk_iff.1 h1).1).2.2.2.2.1
      rw [sortT_len]
      unfold selT selM
      rw [List.length_map]
      exact Nat.le_trans (List.length_filter_le _ _) (by omega)
    · exact Nat.zero_le _
  have HC := hide (fun (W : World) (a b1) => sortedIn_any b am at1 cm ct B s vs W hf hs a b1 S hS)
  have M := Mem.start w
  clear h hf hX hR hS
  go_enter Tryz.func10, Tryz.ntmps10
  go_wp2_with fail
  refine Calls.mono (unhide HC _ ?_ ?_) ?_
  · exact unhide HR _ (Mem.here _)
  · exact (unhide HB).up (Mem.here _)
  rintro e w3 ⟨aL, cL, rfl, hsee, MN⟩
  have M0 := Mem.then MN
  have HM0 : Hid (Mem w w3 []) := M0.part (List.nil_sublist _)
  clear M0 MN HC HB HR M
  have HS := hide hsee
  clear hsee
  have hsz : Hid (w.heap.size ≤ w3.heap.size) := (unhide HM0).size
  have M := Mem.start w3
  obtain ⟨n, hn⟩ : ∃ n, n = S.length := ⟨_, rfl⟩
  have HN : Hid (n = S.length) := hn
  rw [← hn] at HS30 ⊢
  have hn30 : n ≤ 1048576 := unhide HS30
  clear hn
  have hul : Hid (X.length = n) := by show _ = _; rw [unhide HX, List.length_map]; exact (unhide HN).symm
  go_wp2_with (refine wpList_make_full _ rfl _ _ 29 rfl _ 3 i0 _ 1 Tryz.underlying29 hi hz0 hz1 .i64 .i64 _ _ n rfl rfl rfl rfl (by rw [hz2]; omega) (by unfold maxLen; omega) (Nat.le_refl _) ?_; intro wm hown hgm; have M := Mem.then (Mem.of_row hown (g_below hgm)))
  have hmade : (madeCells (Value.int IntKind.i64 0).cells (n * 1)).toList = intsC (laidI X 0) := by
    rw [Nat.mul_one]
    show (madeCells #[.int .i64 0] n).toList = _
    rw [toList_madeCells_one, laidI_zero, unhide hul]
    simp [intsC]
  rw [hmade] at M
  clear hmade hown hgm hi hz0 hz1 hz2
  obtain ⟨gN, hgN⟩ : ∃ g, g = w3.heap.size := ⟨_, rfl⟩
  try rw [← hgN] at M ⊢
  clear hgN
  go_wp2
  go_loopw [16] (fun i W => ∃ k : Nat, k ≤ n ∧ i = .int .i64 k ∧ Mem w3 W [.row (some ⟨gN, 0, none⟩) n n 3 1 (intsC (laidI X k))]) (fun i _ => n - (intOf i).toNat)
  case atStart => exact ⟨0, Nat.zero_le _, rfl, Mem.end⟩
  case round =>
    obtain ⟨k, hk, rfl, M⟩ := hrel
    by_cases hlt : k < n
    · have hlS : k < S.length := by rw [← unhide HN]; exact hlt
      obtain ⟨g, rfl, c0, c1⟩ := unhide HS k _ (List.getElem?_eq_getElem hlS)
      have HT : Hid ((intsC (laidI X k)).set k (.int .i64 S[k].uid) = intsC (laidI X (k + 1))) := by
        show _ = _
        rw [intsC_set, ← laidI_set X k (by rw [unhide hul]; exact hlt)]
        simp [unhide HX]
      generalize S[k] = f at *
      obtain ⟨y, el⟩ := Elt.some (xs := intsC (laidI X k)) (j := k) (by rw [intsC_len, laidI_length _ _ (by rw [unhide hul]; exact hk), unhide hul]; exact hlt)
      go_wp2
      go_roundw
      case rel => exact ⟨k + 1, by omega, by go_num, by rw [← unhide HT]; exact Mem.end⟩
      case measure => simp [intOf]; omega
    · obtain rfl : k = n := by omega
      have HT : Hid (laidI X k = X) := by show _ = _; rw [← unhide hul]; exact laidI_all _
      rw [unhide HT] at M
      go_wp2
      go_ret
      exact ⟨some ⟨gN, 0, none⟩, k, by rw [unhide hul]; rfl, by rw [unhide hul]; exact (unhide HM0).more1 Mem.end⟩
end Go.Proofs.YtihdgfihdecalaaGreatDoor
