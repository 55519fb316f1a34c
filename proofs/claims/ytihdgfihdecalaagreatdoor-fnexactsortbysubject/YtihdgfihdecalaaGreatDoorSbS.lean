/- Mails by their subjects: the specification's SortBySubject. Made by gen_sbs.py. -/
import Derived.Test.YtihdgfihdecalaaGreatDoorSbHead
import Derived.Test.YtihdgfihdecalaaGreatDoorBoxOkS
import Derived.Test.YtihdgfihdecalaaGreatDoorIntRow
import Derived.Test.YtihdgfihdecalaaGreatDoorMmA
import Derived.Test.YtihdgfihdecalaaGreatDoorSetA
import Derived.Laws.Cover1
import Derived.Deep.CutRange
import Derived.Deep.CutBlock
namespace Go.Proofs.YtihdgfihdecalaaGreatDoor
open Go.RowKit
open Plain
set_option linter.unusedVariables false
set_option linter.unusedSimpArgs false
attribute [local go_sem] cell_of frozen_of
namespace Plain
theorem mails_up {b : Bx} (h : boxOk b = true) : b.mails.Pairwise (fun x y => x.uid < y.uid) := by
  have hm := (boxOk_iff.1 h).2.1
  rw [List.pairwise_iff_getElem]
  intro i j hi hj hij
  induction j with
  | zero => omega
  | succ j ih =>
    have q := hm (j + 1) hj
    rw [mailAt_is (List.getElem?_eq_getElem hj)] at q
    unfold mailRight before at q
    dsimp only at q
    rw [List.getElem?_eq_getElem (show j < b.mails.length by omega)] at q
    simp only [Bool.and_eq_true, decide_eq_true_eq] at q
    by_cases e : i = j
    · subst e
      exact q.2.1
    · exact Int.lt_trans (ih (by omega) (by omega)) q.2.1
theorem selT_up {b : Bx} {s : List Rg} (h : boxOk b = true) (k : Nat) : (selT s (b.mails.take k)).Pairwise (fun x y => x.uid < y.uid) := by
  unfold selT selM
  rw [List.pairwise_map]
  exact ((mails_up h).sublist ((List.filter_sublist).trans (List.take_sublist _ _))).imp fun h => h
theorem selT_all (s : List Rg) (l : List Ml) : selT s (l.take l.length) = selT s l := by rw [List.take_length]
end Plain
theorem Tryz.infoStrB : (Tryz.prog.info? 9).map (fun i => (i.zero, i.size, i.bytes)) = some (some (.string ByteArray.empty), 1, 16) := by kernel_rfl
instance Tryz.elemIB : Elem Tryz.prog 29 3 1 8 := ⟨Tryz.underlying29, by
  obtain ⟨i0, hi, hz0, hz1, hz2⟩ := info_parts Tryz.infoIntR
  exact ⟨i0, _, hi, hz0, hz1, hz2, rfl, by decide⟩⟩
instance Tryz.elemSB : Elem Tryz.prog 51 9 1 16 := ⟨Tryz.underlying51, by
  obtain ⟨i0, hi, hz0, hz1, hz2⟩ := info_parts Tryz.infoStrB
  exact ⟨i0, _, hi, hz0, hz1, hz2, rfl, by decide⟩⟩
theorem src_cells {w W : World} {L : List Pc} {g n c : Nat} {t : TypeId} {xs : List Value} {f : Pc → List Pc} [M : Mem w W L] [h : InL L (.row (some ⟨g, 0, none⟩) n c t 1 xs) f] (k : Nat) (news : List Value) (hs : ∀ (j : Nat) (u : Value), news[j]? = some u → xs[k + j]? = some u) (j : Nat) (u : Value) (hj : news[j]? = some u) : W.cell? ((⟨g, k, none⟩ : Addr).add j) = some u := by
  have q : W.ownsRow w.heap.size t 1 (.slice (some ⟨g, 0, none⟩) n c) n xs := M.get (.row (some ⟨g, 0, none⟩) n c t 1 xs)
  have hx := hs j u hj
  have hl : k + j < n * 1 := by rw [← q.1]; exact (List.getElem?_eq_some_iff.1 hx).1
  rw [Addr.add_lit, q.cellAt (k + j) hl]
  exact hx
theorem getA {A D : List Value} {j : Nat} {u : Value} (h : A[j]? = some u) : (A ++ D)[j]? = some u := by
  rw [List.getElem?_append_left (List.getElem?_eq_some_iff.1 h).1]
  exact h
theorem getD {A D : List Value} {p j : Nat} {u : Value} (hp : A.length = p) (h : D[j]? = some u) : (A ++ D)[p + j]? = some u := by
  rw [List.getElem?_append_right (by omega), hp, Nat.add_sub_cancel_left]
  exact h
theorem intsC_one (l : List Int) : Hid (∀ u ∈ intsC l, u.oneCell' = true) := fun u hu => by obtain ⟨x, _, rfl⟩ := List.mem_map.1 hu; rfl
theorem strs_one (l : List (List UInt8)) : Hid (∀ u ∈ Plain.strs l, u.oneCell' = true) := fun u hu => by obtain ⟨x, _, rfl⟩ := List.mem_map.1 hu; rfl
theorem intsC_app (a b : List Int) : intsC (a ++ b) = intsC a ++ intsC b := by simp [intsC]
theorem strs_app (a b : List (List UInt8)) : Plain.strs (a ++ b) = Plain.strs a ++ Plain.strs b := by simp [Plain.strs]
set_option maxHeartbeats 16000000 in
set_option maxRecDepth 100000 in
theorem spec_SortBySubject_any (b : Bx) (am at1 : Option Addr) (cm ct B : Nat) (s : List Rg) (vs : Value) (w : World) (hf : FitBx b) (hs : s.length ≤ 1048576) (hR : ReadR w vs s) (h : OwnBx B w (.slice am b.mails.length cm) (.slice at1 b.tombs.length ct) b) (X : List Int) (hX : X = sbV b s) :
    Calls Tryz.prog 7 #[boxV b (.slice am b.mails.length cm) (.slice at1 b.tombs.length ct), vs] w fun e w' => ∃ a c, e = .returned (.slice a X.length c) ∧ Mem w w' [.row a X.length c 3 1 (intsC X)] := by
  have HB := hide h
  have HF := hide hf
  have HX := hide hX
  have HR : Hid (∀ W, Below w.heap.size w W → ReadR W vs s) := fun W hb => hR.up hb
  have HS := hide (OwnMl.see h.1)
  have M := Mem.start w
  clear h hf hX hR
  go_enter Tryz.func7, Tryz.ntmps7
  go_wp2_with fail
  refine (spec_BoxOk_any b _ _ B _ (unhide HF) ((unhide HB).up (Mem.here _))).mono ?_
  rintro e w2 ⟨rfl, hb⟩
  have M := Mem.go hb
  clear hb
  cases h1 : boxOk b with
  | false =>
    have hx : X = [] := by rw [unhide HX]; unfold sbV; rw [if_neg (by rw [h1]; decide)]
    clear HX
    subst hx
    go_wp2
    go_ret
    refine ⟨some ⟨w.heap.size + 1, 0, none⟩, 0, rfl, ?_⟩
    show Mem w _ [.row (some ⟨w.heap.size + 1, 0, none⟩) 0 0 3 1 []]
    exact Mem.fin1 (w.heap.size + 1) 3 1
  | true =>
  have hl := (head_parts (boxOk_iff.1 h1).1).2.2.2.2.1
  have UP := hide (fun k => selT_up (s := s) h1 k)
  have hx : X = (sortT (selT s b.mails)).map (·.uid) := by rw [unhide HX]; unfold sbV; rw [if_pos h1]
  have HX := hide hx
  clear hx h1
  go_wp2
  go_loopw [5, 6, 7] (fun s5 s6 i W => ∃ (k c1 c2 g1 g2 : Nat), k ≤ b.mails.length ∧ i = .int .i64 k ∧ s5 = .slice (some ⟨g1, 0, none⟩) (sortT (selT s (b.mails.take k))).length c1 ∧ s6 = .slice (some ⟨g2, 0, none⟩) (sortT (selT s (b.mails.take k))).length c2 ∧ Mem w W [.row (some ⟨g1, 0, none⟩) (sortT (selT s (b.mails.take k))).length c1 3 1 (intsC ((sortT (selT s (b.mails.take k))).map (·.uid))), .row (some ⟨g2, 0, none⟩) (sortT (selT s (b.mails.take k))).length c2 9 1 (Plain.strs ((sortT (selT s (b.mails.take k))).map (·.base))), .obj w.heap.size 34 [.string b.name, .int .i64 b.valid, .int .i64 b.next, .int .i64 b.mod, .slice am b.mails.length cm, .slice at1 b.tombs.length ct, .int .i64 b.hor]]) (fun _ _ i _ => b.mails.length - (intOf i).toNat)
  case atStart =>
    refine ⟨0, 0, 0, w.heap.size + 1, w.heap.size + 1 + 1, Nat.zero_le _, rfl, rfl, rfl, ?_⟩
    show Mem w _ [.row (some ⟨w.heap.size + 1, 0, none⟩) 0 0 3 1 [], .row (some ⟨w.heap.size + 1 + 1, 0, none⟩) 0 0 9 1 [], .obj w.heap.size 34 [.string b.name, .int .i64 b.valid, .int .i64 b.next, .int .i64 b.mod, .slice am b.mails.length cm, .slice at1 b.tombs.length ct, .int .i64 b.hor]]
    have := Mem.asRow (W := w2) (b := w.heap.size + 1) (t := 3) 1
    have := Mem.asRow (W := w2) (b := w.heap.size + 1 + 1) (t := 9) 1
    exact Mem.fin
  case round =>
    obtain ⟨k, c1, c2, g1, g2, hk, rfl, rfl, rfl, M⟩ := hrel
    by_cases hlt : k < b.mails.length
    · have hm := List.getElem?_eq_getElem hlt
      obtain ⟨gm, rfl, m0, m1, m2, m3⟩ := unhide HS k _ hm
      have HK : Hid (k < b.mails.length) := hlt
      have HTX : Hid (b.mails[k].text.size ≤ 1048576) := (unhide HF).texts _ (List.getElem_mem hlt)
      have HY := hide (fun h => selT_yes (s := s) hm h)
      have HN := hide (fun h => selT_no (s := s) hm h)
      generalize b.mails[k] = f at *
      have HT0 : Hid ((selT s (b.mails.take k)).length ≤ k) := selT_len s b.mails k
      clear hm
      go_wp2_with fail
      refine Calls.mono (spec_SetHas_any s f.uid vs _ hs ?_) ?_
      · exact unhide HR _ (Mem.here _)
      rintro e w3 ⟨rfl, rfl⟩
      cases hh : hasB s f.uid with
      | false =>
        have HE := hide (unhide HN hh)
        clear HY HN hh
        go_wp2
        go_roundw
        case rel => exact ⟨k + 1, c1, c2, g1, g2, unhide HK, by go_num, by rw [unhide HE], by rw [unhide HE], by rw [unhide HE]; exact Mem.fin⟩
        case measure => have := unhide HK; simp [intOf]; omega
      | true =>
        have HE := hide (unhide HY hh)
        clear HY HN hh
        obtain ⟨T, hT⟩ : ∃ T, T = selT s (b.mails.take k) := ⟨_, rfl⟩
        have US := hide (unhide UP k)
        have UT := hide (unhide UP (k + 1))
        rw [← hT] at M HE US HT0 ⊢
        rw [unhide HE] at UT
        obtain ⟨Ls, hLs⟩ : ∃ Ls, Ls = sortT T := ⟨_, rfl⟩
        have SO : Hid (SortedT Ls) := by rw [hLs]; exact sortT_sorted (unhide US)
        have LL : Hid (Ls.length ≤ k) := by show _ ≤ _; rw [hLs, sortT_len]; exact unhide HT0
        have NX : Hid (sortT (T ++ [ttOf f]) = Ls.take (posT Ls (baseP f.text)) ++ ttOf f :: Ls.drop (posT Ls (baseP f.text))) := by show _ = _; rw [sortT_snoc, ← hLs]; rfl
        rw [← hLs] at M ⊢
        obtain ⟨nm, hnm⟩ : ∃ nm, nm = baseP f.text := ⟨_, rfl⟩
        have HSUB := hide (fun W => l12Subject_any f W (unhide HTX))
        rw [← hnm] at NX HSUB
        have HNM : Hid (ttOf f = ⟨nm, f.uid⟩) := by show _ = _; rw [hnm]; rfl
        obtain ⟨n, hn⟩ : ∃ n, n = Ls.length := ⟨_, rfl⟩
        rw [← hn] at M LL ⊢
        have HLN : Hid (n = Ls.length) := hn
        have hn30 : n ≤ 30 := by have := unhide LL; omega
        clear hT hLs hnm hn
        go_wp2_with fail
        refine (unhide HSUB _).mono ?_
        rintro e w4 ⟨rfl, MN⟩
        have M := Mem.then MN
        clear MN HSUB
        go_upto_block 2 with fail
        go_cut [9] from 40 to 81 (fun s9 wc => s9 = .int .i64 (posT Ls nm : Int) ∧ Mem w wc [.row (some ⟨g1, 0, none⟩) n c1 3 1 (intsC (Ls.map (·.uid))), .row (some ⟨g2, 0, none⟩) n c2 9 1 (Plain.strs (Ls.map (·.base))), .obj w.heap.size 34 [.string b.name, .int .i64 b.valid, .int .i64 b.next, .int .i64 b.mod, .slice (some ⟨gm, 0, none⟩) b.mails.length cm, .slice at1 b.tombs.length ct, .int .i64 b.hor]])
        case first =>
          go_wp2_with fail
          go_loopw [9] (fun j W => ∃ jn : Nat, jn ≤ n ∧ j = .int .i64 jn ∧ (∀ i y, jn ≤ i → Ls[i]? = some y → bl nm y.base = true) ∧ Mem w W [.row (some ⟨g1, 0, none⟩) n c1 3 1 (intsC (Ls.map (·.uid))), .row (some ⟨g2, 0, none⟩) n c2 9 1 (Plain.strs (Ls.map (·.base))), .obj w.heap.size 34 [.string b.name, .int .i64 b.valid, .int .i64 b.next, .int .i64 b.mod, .slice (some ⟨gm, 0, none⟩) b.mails.length cm, .slice at1 b.tombs.length ct, .int .i64 b.hor]]) (fun j _ => (intOf j).toNat)
          case atStart => exact ⟨n, Nat.le_refl _, rfl, fun i y hi hy => (by rw [List.getElem?_eq_none (by rw [← unhide HLN]; exact hi)] at hy; cases hy), Mem.fin⟩
          case round =>
            obtain ⟨jn, hj, rfl, hall, M⟩ := hrel
            have HALL := hide hall
            clear hall
            by_cases j0 : jn = 0
            · subst j0
              go_wp2
              go_meet
              case rel => exact ⟨by rw [← posT_at (unhide SO) (Nat.zero_le _) (unhide HALL) (.inl rfl)]; try rfl, Mem.fin⟩
            · have jl : jn - 1 < Ls.length := by rw [← unhide HLN]; omega
              have hy := List.getElem?_eq_getElem jl
              have e0 : Elt (Plain.strs (Ls.map (·.base))) (jn - 1) (.string ⟨Ls[jn - 1].base.toArray⟩) := ⟨by simp [Plain.strs, hy]⟩
              have HY := hide hy
              generalize Ls[jn - 1] = y at *
              clear hy
              have p0 : (0 : Int) < (jn : Int) := by omega
              have p1 : (jn : Int) - 1 = ((jn - 1 : Nat) : Int) := by omega
              have p2 : IntKind.i64.wrap ((jn : Int) - 1) = ((jn - 1 : Nat) : Int) := by rw [IntKind.wrap_i64]; omega
              have p3 : jn - 1 < n := by omega
              obtain ⟨q, hq⟩ : ∃ q, q = jn - 1 := ⟨_, rfl⟩
              rw [← hq] at e0 p1 p2 p3
              have p4 : ((q : Nat) : Int) < (n : Int) := by omega
              have HQ := hide hq
              clear hq
              cases hb : bl nm y.base with
              | true =>
                have b1 : Op.bytesLess y.base nm = false := by
                  cases h : Op.bytesLess y.base nm with
                  | false => rfl
                  | true => have := bl_trans _ _ _ hb h; rw [bl_irrefl] at this; cases this
                have b2 : (y.base == nm) = false := by rw [beq_eq_false_iff_ne]; rintro rfl; rw [bl_irrefl] at hb; cases hb
                go_wp2
                go_roundw
                case rel => exact ⟨q, by omega, by go_num, fun i z hi hz => (by
                  have hq := unhide HQ
                  by_cases e : i = jn - 1
                  · subst e
                    have := unhide HY
                    rw [this] at hz
                    cases hz
                    exact hb
                  · exact unhide HALL i z (by omega) hz), Mem.fin⟩
                case measure => have hq := unhide HQ; simp [intOf]; omega
              | false =>
                have b3 : (Op.bytesLess y.base nm || y.base == nm) = true := by
                  cases h : Op.bytesLess y.base nm with
                  | true => rfl
                  | false => have := bl_tri _ _ (by rw [hb]; decide) (by unfold bl; rw [h]; decide); rw [this]; simp
                go_wp2
                go_meet
                case rel => exact ⟨by rw [← posT_at (unhide SO) (by rw [← unhide HLN]; exact hj) (unhide HALL) (.inr ⟨y, unhide HY, hb⟩)]; try rfl, Mem.fin⟩
        case rest =>
          obtain ⟨rfl, M⟩ := hcut
          have pn : posT Ls nm ≤ n := by rw [unhide HLN]; exact posT_le _ _
          generalize posT Ls nm = p at *
          have k1 : n ≤ c1 := Mem.cap (M := M) (a := some ⟨g1, 0, none⟩) (n := n) (c := c1) (m := 1) (t := 3) (xs := intsC (Ls.map (·.uid)))
          have k2 : n ≤ c2 := Mem.cap (M := M) (a := some ⟨g2, 0, none⟩) (n := n) (c := c2) (m := 1) (t := 9) (xs := Plain.strs (Ls.map (·.base)))
          have q1 : (p : Int) ≤ (c1 : Int) := by omega
          have q2 : (p : Int) ≤ (c2 : Int) := by omega
          have q3 : (p : Int) ≤ (n : Int) := by omega
          have q4 : (0 : Int) ≤ (p : Int) := by omega
          obtain ⟨A1, hA1⟩ : ∃ q, q = intsC ((Ls.take p).map (·.uid)) := ⟨_, rfl⟩
          obtain ⟨D1, hD1⟩ : ∃ q, q = intsC ((Ls.drop p).map (·.uid)) := ⟨_, rfl⟩
          obtain ⟨A2, hA2⟩ : ∃ q, q = Plain.strs ((Ls.take p).map (·.base)) := ⟨_, rfl⟩
          obtain ⟨D2, hD2⟩ : ∃ q, q = Plain.strs ((Ls.drop p).map (·.base)) := ⟨_, rfl⟩
          have lenT : (Ls.take p).length = p := by rw [List.length_take, ← unhide HLN]; omega
          have lenD : (Ls.drop p).length = n - p := by rw [List.length_drop, ← unhide HLN]
          have e1 : intsC (Ls.map (·.uid)) = A1 ++ D1 := by rw [hA1, hD1, ← intsC_app, ← List.map_append, List.take_append_drop]
          have e2 : Plain.strs (Ls.map (·.base)) = A2 ++ D2 := by rw [hA2, hD2, ← strs_app, ← List.map_append, List.take_append_drop]
          rw [e1, e2] at M
          have la1 : A1.length = p := by rw [hA1]; unfold intsC; rw [List.length_map, List.length_map, lenT]
          have ld1 : D1.length = n - p := by rw [hD1]; unfold intsC; rw [List.length_map, List.length_map, lenD]
          have la2 : A2.length = p := by rw [hA2]; unfold Plain.strs; rw [List.length_map, List.length_map, lenT]
          have ld2 : D2.length = n - p := by rw [hD2]; unfold Plain.strs; rw [List.length_map, List.length_map, lenD]
          have wa1 : Hid (∀ u ∈ A1, u.oneCell' = true) := by rw [hA1]; exact intsC_one _
          have wd1 : Hid (∀ u ∈ D1, u.oneCell' = true) := by rw [hD1]; exact intsC_one _
          have wa2 : Hid (∀ u ∈ A2, u.oneCell' = true) := by rw [hA2]; exact strs_one _
          have wd2 : Hid (∀ u ∈ D2, u.oneCell' = true) := by rw [hD2]; exact strs_one _
          have HI : Hid (intsC ((sortT (T ++ [ttOf f])).map (·.uid)) = (A1 ++ [.int .i64 f.uid]) ++ D1) := by show _ = _; rw [unhide NX, hA1, hD1, unhide HNM]; simp [intsC]
          have HSX : Hid (Plain.strs ((sortT (T ++ [ttOf f])).map (·.base)) = (A2 ++ [.string ⟨nm.toArray⟩]) ++ D2) := by show _ = _; rw [unhide NX, hA2, hD2, unhide HNM]; simp [Plain.strs]
          have HNL : Hid ((sortT (T ++ [ttOf f])).length = p + 1 + (n - p)) := by show _ = _; rw [unhide NX, List.length_append, List.length_cons, lenT, lenD]; omega
          have HLA := hide (And.intro la1 (And.intro ld1 (And.intro la2 ld2)))
          clear e1 e2 hA1 hD1 hA2 hD2 la1 ld1 la2 ld2 lenT lenD NX HNM
          obtain ⟨ad1, ha1⟩ : ∃ ad : Addr, (if c1 = p then (some ⟨g1, 0, none⟩ : Option Addr) else some ⟨g1, p, none⟩) = some ad := by split <;> exact ⟨_, rfl⟩
          obtain ⟨ad2, ha2⟩ : ∃ ad : Addr, (if c2 = p then (some ⟨g2, 0, none⟩ : Option Addr) else some ⟨g2, p, none⟩) = some ad := by split <;> exact ⟨_, rfl⟩
          have HA1 : Hid (0 < n - p → ad1 = ⟨g1, p, none⟩) := fun q => by rw [if_neg (by omega)] at ha1; cases ha1; rfl
          have HA2 : Hid (0 < n - p → ad2 = ⟨g2, p, none⟩) := fun q => by rw [if_neg (by omega)] at ha2; cases ha2; rfl
          go_wp2
          go_cut [5] from 53 to 81 (fun s5 wc => ∃ (g3 c3 : Nat), s5 = .slice (some ⟨g3, 0, none⟩) (p + 1 + (n - p)) c3 ∧ Mem w wc [.row (some ⟨g3, 0, none⟩) (p + 1 + (n - p)) c3 3 1 ((A1 ++ [.int .i64 f.uid]) ++ D1), .row (some ⟨g2, 0, none⟩) n c2 9 1 (A2 ++ D2), .obj w.heap.size 34 [.string b.name, .int .i64 b.valid, .int .i64 b.next, .int .i64 b.mod, .slice (some ⟨gm, 0, none⟩) b.mails.length cm, .slice at1 b.tombs.length ct, .int .i64 b.hor]])
          case first =>
            refine mb 18 (fun M => ?_)
            refine tm 1 54 ?_; refine tm 2 55 ?_; refine tm 3 56 ?_; refine tm 5 58 ?_; refine tm 6 59 ?_; refine tm 7 60 ?_; refine tm 8 61 ?_; refine tm 9 62 ?_; refine tm 10 63 ?_; refine tm 13 66 ?_; refine tm 14 67 ?_; refine tm 15 68 ?_
            refine tt 0 11 (fun K hK => ?_) (fun K hK => ?_)
            · go_simp
              refine hK.out _ _ Mem.end ?_
              clear hK K
              try simp only [Act.put, p1, p2, p3]
              have M := Mem.asRow (w := w) (W := wc.drew.alloc (.cells #[] 3)) (b := wc.heap.size) (t := 3) 1
              refine tt 4 11 (fun K hK => ?_) (fun K hK => ?_)
              · refine mem_append_at (M := M) (.tmp 53) (.tmp 56) 29 [] ⟨g1, 0, none⟩ A1 rfl rfl rfl (src_cells (M := M) (n := n) (c := c1) (t := 3) (xs := A1 ++ D1) 0 A1 fun j u hj => (by rw [Nat.zero_add]; exact getA hj)) (unhide wa1) (by rw [(unhide HLA).1, Nat.mul_one]) (by omega) (by decide) fun a1 cap1 w1 M => ?_
                try dsimp only at M
                rw [Nat.zero_add, List.nil_append] at M
                refine hK.out _ _ Mem.end ?_
                clear hK K
                try simp only [List.getElem_toArray, List.getElem_cons_succ, List.getElem_cons_zero]
                try simp only [Act.put, p1, p2, p3]
                try simp only [Nat.zero_add]
                refine to_ 11 fun K hK => ?_
                go_simp
                refine hK.out _ _ Mem.end ?_
                clear hK K
                try simp only [Act.put, p1, p2, p3]
                refine to_ 12 fun K hK => ?_
                refine mem_append (.tmp 57) (.tmp 64) 29 A1 _ [.int .i64 f.uid] rfl rfl rfl (by simp [Value.oneCell']) (by rfl) (by omega) (by decide) fun gq cap2 w2 M => ?_
                try dsimp only at M
                refine hK.out _ _ Mem.end ?_
                clear hK K
                try simp only [List.getElem_toArray, List.getElem_cons_succ, List.getElem_cons_zero]
                try simp only [Act.put, p1, p2, p3]
                refine to_ 16 fun K hK => ?_
                refine mem_append_at (.tmp 65) (.tmp 68) 29 (A1 ++ [.int .i64 f.uid]) ad1 D1 rfl rfl rfl (fun j u hj => by rw [unhide HA1 (by have := (List.getElem?_eq_some_iff.1 hj).1; rw [(unhide HLA).2.1] at this; omega)]; exact src_cells (n := n) (c := c1) (t := 3) (xs := A1 ++ D1) p D1 (fun j u hj => getD ((unhide HLA).1) hj) j u hj) (unhide wd1) (by rw [(unhide HLA).2.1, Nat.mul_one]) (by omega) (by decide) fun a3 cap3 w3 M => ?_
                try dsimp only at M
                refine hK.out _ _ Mem.end ?_
                clear hK K
                try simp only [List.getElem_toArray, List.getElem_cons_succ, List.getElem_cons_zero]
                try simp only [Act.put, p1, p2, p3]
                refine tm 17 5 ?_
                refine td ?_
                obtain ⟨gz, rfl⟩ := M.addr (.row a3 (p + 1 + (n - p)) cap3 3 1 ((A1 ++ [.int .i64 f.uid]) ++ D1)) rfl (by omega)
                go_wp2
                go_meet
                case rel => exact ⟨gz, cap3, rfl, Mem.fin⟩
              · go_simp
                refine hK.out _ _ Mem.end ?_
                clear hK K
                try simp only [Act.put, p1, p2, p3]
                have M := Mem.alloc (M := M) (t := 3) (vs := [.int .i64 f.uid])
                refine to_ 4 fun K hK => ?_
                refine mem_append_at (M := M) (.tmp 53) (.tmp 56) 29 [] ⟨g1, 0, none⟩ A1 rfl rfl rfl (src_cells (M := M) (n := n) (c := c1) (t := 3) (xs := A1 ++ D1) 0 A1 fun j u hj => (by rw [Nat.zero_add]; exact getA hj)) (unhide wa1) (by rw [(unhide HLA).1, Nat.mul_one]) (by omega) (by decide) fun a1 cap1 w1 M => ?_
                try dsimp only at M
                rw [Nat.zero_add, List.nil_append] at M
                refine hK.out _ _ Mem.end ?_
                clear hK K
                try simp only [List.getElem_toArray, List.getElem_cons_succ, List.getElem_cons_zero]
                try simp only [Act.put, p1, p2, p3]
                try simp only [Nat.zero_add]
                refine to_ 12 fun K hK => ?_
                refine mem_append (.tmp 57) (.tmp 64) 29 A1 _ [.int .i64 f.uid] rfl rfl rfl (by simp [Value.oneCell']) (by rfl) (by omega) (by decide) fun gq cap2 w2 M => ?_
                try dsimp only at M
                refine hK.out _ _ Mem.end ?_
                clear hK K
                try simp only [List.getElem_toArray, List.getElem_cons_succ, List.getElem_cons_zero]
                try simp only [Act.put, p1, p2, p3]
                refine to_ 16 fun K hK => ?_
                refine mem_append_at (.tmp 65) (.tmp 68) 29 (A1 ++ [.int .i64 f.uid]) ad1 D1 rfl rfl rfl (fun j u hj => by rw [unhide HA1 (by have := (List.getElem?_eq_some_iff.1 hj).1; rw [(unhide HLA).2.1] at this; omega)]; exact src_cells (n := n) (c := c1) (t := 3) (xs := A1 ++ D1) p D1 (fun j u hj => getD ((unhide HLA).1) hj) j u hj) (unhide wd1) (by rw [(unhide HLA).2.1, Nat.mul_one]) (by omega) (by decide) fun a3 cap3 w3 M => ?_
                try dsimp only at M
                refine hK.out _ _ Mem.end ?_
                clear hK K
                try simp only [List.getElem_toArray, List.getElem_cons_succ, List.getElem_cons_zero]
                try simp only [Act.put, p1, p2, p3]
                refine tm 17 5 ?_
                refine td ?_
                obtain ⟨gz, rfl⟩ := M.addr (.row a3 (p + 1 + (n - p)) cap3 3 1 ((A1 ++ [.int .i64 f.uid]) ++ D1)) rfl (by omega)
                go_wp2
                go_meet
                case rel => exact ⟨gz, cap3, rfl, Mem.fin⟩
            · go_simp
              refine hK.out _ _ Mem.end ?_
              clear hK K
              try simp only [Act.put, p1, p2, p3]
              refine to_ 0 fun K hK => ?_
              go_simp
              refine hK.out _ _ Mem.end ?_
              clear hK K
              try simp only [Act.put, p1, p2, p3]
              have M := Mem.asRow (w := w) (W := (wc.drew.alloc (.cells #[.int .i64 f.uid] 3)).alloc (.cells #[] 3)) (b := (wc.heap.size + 1)) (t := 3) 1
              refine to_ 4 fun K hK => ?_
              refine mem_append_at (M := M) (.tmp 53) (.tmp 56) 29 [] ⟨g1, 0, none⟩ A1 rfl rfl rfl (src_cells (M := M) (n := n) (c := c1) (t := 3) (xs := A1 ++ D1) 0 A1 fun j u hj => (by rw [Nat.zero_add]; exact getA hj)) (unhide wa1) (by rw [(unhide HLA).1, Nat.mul_one]) (by omega) (by decide) fun a1 cap1 w1 M => ?_
              try dsimp only at M
              rw [Nat.zero_add, List.nil_append] at M
              refine hK.out _ _ Mem.end ?_
              clear hK K
              try simp only [List.getElem_toArray, List.getElem_cons_succ, List.getElem_cons_zero]
              try simp only [Act.put, p1, p2, p3]
              try simp only [Nat.zero_add]
              refine to_ 12 fun K hK => ?_
              refine mem_append (.tmp 57) (.tmp 64) 29 A1 _ [.int .i64 f.uid] rfl rfl rfl (by simp [Value.oneCell']) (by rfl) (by omega) (by decide) fun gq cap2 w2 M => ?_
              try dsimp only at M
              refine hK.out _ _ Mem.end ?_
              clear hK K
              try simp only [List.getElem_toArray, List.getElem_cons_succ, List.getElem_cons_zero]
              try simp only [Act.put, p1, p2, p3]
              refine to_ 16 fun K hK => ?_
              refine mem_append_at (.tmp 65) (.tmp 68) 29 (A1 ++ [.int .i64 f.uid]) ad1 D1 rfl rfl rfl (fun j u hj => by rw [unhide HA1 (by have := (List.getElem?_eq_some_iff.1 hj).1; rw [(unhide HLA).2.1] at this; omega)]; exact src_cells (n := n) (c := c1) (t := 3) (xs := A1 ++ D1) p D1 (fun j u hj => getD ((unhide HLA).1) hj) j u hj) (unhide wd1) (by rw [(unhide HLA).2.1, Nat.mul_one]) (by omega) (by decide) fun a3 cap3 w3 M => ?_
              try dsimp only at M
              refine hK.out _ _ Mem.end ?_
              clear hK K
              try simp only [List.getElem_toArray, List.getElem_cons_succ, List.getElem_cons_zero]
              try simp only [Act.put, p1, p2, p3]
              refine tm 17 5 ?_
              refine td ?_
              obtain ⟨gz, rfl⟩ := M.addr (.row a3 (p + 1 + (n - p)) cap3 3 1 ((A1 ++ [.int .i64 f.uid]) ++ D1)) rfl (by omega)
              go_wp2
              go_meet
              case rel => exact ⟨gz, cap3, rfl, Mem.fin⟩
          case rest =>
            obtain ⟨g3, c3, rfl, M⟩ := hcut
            clear ha1 HA1 wa1 wd1
            go_wp2
            refine mb 13 (fun M => ?_)
            refine tm 1 71 ?_; refine tm 2 72 ?_; refine tm 3 73 ?_; refine tm 5 75 ?_; refine tm 8 78 ?_; refine tm 9 79 ?_; refine tm 10 80 ?_
            refine tt 0 6 (fun K hK => ?_) (fun K hK => ?_)
            · go_simp
              refine hK.out _ _ Mem.end ?_
              clear hK K
              try simp only [Act.put, p1, p2, p3]
              have M := Mem.asRow (w := w) (W := wc.drew.alloc (.cells #[] 9)) (b := wc.heap.size) (t := 9) 1
              refine tt 4 6 (fun K hK => ?_) (fun K hK => ?_)
              · refine mem_append_at (M := M) (.tmp 70) (.tmp 73) 51 [] ⟨g2, 0, none⟩ A2 rfl rfl rfl (src_cells (M := M) (n := n) (c := c2) (t := 9) (xs := A2 ++ D2) 0 A2 fun j u hj => (by rw [Nat.zero_add]; exact getA hj)) (unhide wa2) (by rw [(unhide HLA).2.2.1, Nat.mul_one]) (by omega) (by decide) fun a1 cap1 w1 M => ?_
                try dsimp only at M
                rw [Nat.zero_add, List.nil_append] at M
                refine hK.out _ _ Mem.end ?_
                clear hK K
                try simp only [List.getElem_toArray, List.getElem_cons_succ, List.getElem_cons_zero]
                try simp only [Act.put, p1, p2, p3]
                try simp only [Nat.zero_add]
                refine to_ 6 fun K hK => ?_
                go_simp
                refine hK.out _ _ Mem.end ?_
                clear hK K
                try simp only [Act.put, p1, p2, p3]
                refine to_ 7 fun K hK => ?_
                refine mem_append (.tmp 74) (.tmp 76) 51 A2 _ [.string ⟨nm.toArray⟩] rfl rfl rfl (by simp [Value.oneCell']) (by rfl) (by omega) (by decide) fun gq cap2 w2 M => ?_
                try dsimp only at M
                refine hK.out _ _ Mem.end ?_
                clear hK K
                try simp only [List.getElem_toArray, List.getElem_cons_succ, List.getElem_cons_zero]
                try simp only [Act.put, p1, p2, p3]
                refine to_ 11 fun K hK => ?_
                refine mem_append_at (.tmp 77) (.tmp 80) 51 (A2 ++ [.string ⟨nm.toArray⟩]) ad2 D2 rfl rfl rfl (fun j u hj => by rw [unhide HA2 (by have := (List.getElem?_eq_some_iff.1 hj).1; rw [(unhide HLA).2.2.2] at this; omega)]; exact src_cells (n := n) (c := c2) (t := 9) (xs := A2 ++ D2) p D2 (fun j u hj => getD ((unhide HLA).2.2.1) hj) j u hj) (unhide wd2) (by rw [(unhide HLA).2.2.2, Nat.mul_one]) (by omega) (by decide) fun a3 cap3 w3 M => ?_
                try dsimp only at M
                refine hK.out _ _ Mem.end ?_
                clear hK K
                try simp only [List.getElem_toArray, List.getElem_cons_succ, List.getElem_cons_zero]
                try simp only [Act.put, p1, p2, p3]
                refine tm 12 6 ?_
                refine td ?_
                obtain ⟨gz, rfl⟩ := M.addr (.row a3 (p + 1 + (n - p)) cap3 9 1 ((A2 ++ [.string ⟨nm.toArray⟩]) ++ D2)) rfl (by omega)
                rw [← unhide HNL, ← unhide HSX] at M
                have M2 : Mem w w3 [.row (some ⟨g3, 0, none⟩) (sortT (T ++ [ttOf f])).length c3 3 1 ((A1 ++ [.int .i64 f.uid]) ++ D1), .row (some ⟨gz, 0, none⟩) (sortT (T ++ [ttOf f])).length cap3 9 1 (Plain.strs ((sortT (T ++ [ttOf f])).map (·.base))), .obj w.heap.size 34 [.string b.name, .int .i64 b.valid, .int .i64 b.next, .int .i64 b.mod, .slice (some ⟨gm, 0, none⟩) b.mails.length cm, .slice at1 b.tombs.length ct, .int .i64 b.hor]] := Mem.fin
                rw [← unhide HI] at M2
                rw [← unhide HNL]
                go_wp2
                go_roundw
                case rel => exact ⟨k + 1, c3, cap3, g3, gz, unhide HK, by go_num, by rw [unhide HE], by rw [unhide HE], by rw [unhide HE]; exact Mem.fin⟩
                case measure => have := unhide HK; simp [intOf]; omega
              · go_simp
                refine hK.out _ _ Mem.end ?_
                clear hK K
                try simp only [Act.put, p1, p2, p3]
                have M := Mem.alloc (M := M) (t := 9) (vs := [.string ⟨nm.toArray⟩])
                refine to_ 4 fun K hK => ?_
                refine mem_append_at (M := M) (.tmp 70) (.tmp 73) 51 [] ⟨g2, 0, none⟩ A2 rfl rfl rfl (src_cells (M := M) (n := n) (c := c2) (t := 9) (xs := A2 ++ D2) 0 A2 fun j u hj => (by rw [Nat.zero_add]; exact getA hj)) (unhide wa2) (by rw [(unhide HLA).2.2.1, Nat.mul_one]) (by omega) (by decide) fun a1 cap1 w1 M => ?_
                try dsimp only at M
                rw [Nat.zero_add, List.nil_append] at M
                refine hK.out _ _ Mem.end ?_
                clear hK K
                try simp only [List.getElem_toArray, List.getElem_cons_succ, List.getElem_cons_zero]
                try simp only [Act.put, p1, p2, p3]
                try simp only [Nat.zero_add]
                refine to_ 7 fun K hK => ?_
                refine mem_append (.tmp 74) (.tmp 76) 51 A2 _ [.string ⟨nm.toArray⟩] rfl rfl rfl (by simp [Value.oneCell']) (by rfl) (by omega) (by decide) fun gq cap2 w2 M => ?_
                try dsimp only at M
                refine hK.out _ _ Mem.end ?_
                clear hK K
                try simp only [List.getElem_toArray, List.getElem_cons_succ, List.getElem_cons_zero]
                try simp only [Act.put, p1, p2, p3]
                refine to_ 11 fun K hK => ?_
                refine mem_append_at (.tmp 77) (.tmp 80) 51 (A2 ++ [.string ⟨nm.toArray⟩]) ad2 D2 rfl rfl rfl (fun j u hj => by rw [unhide HA2 (by have := (List.getElem?_eq_some_iff.1 hj).1; rw [(unhide HLA).2.2.2] at this; omega)]; exact src_cells (n := n) (c := c2) (t := 9) (xs := A2 ++ D2) p D2 (fun j u hj => getD ((unhide HLA).2.2.1) hj) j u hj) (unhide wd2) (by rw [(unhide HLA).2.2.2, Nat.mul_one]) (by omega) (by decide) fun a3 cap3 w3 M => ?_
                try dsimp only at M
                refine hK.out _ _ Mem.end ?_
                clear hK K
                try simp only [List.getElem_toArray, List.getElem_cons_succ, List.getElem_cons_zero]
                try simp only [Act.put, p1, p2, p3]
                refine tm 12 6 ?_
                refine td ?_
                obtain ⟨gz, rfl⟩ := M.addr (.row a3 (p + 1 + (n - p)) cap3 9 1 ((A2 ++ [.string ⟨nm.toArray⟩]) ++ D2)) rfl (by omega)
                rw [← unhide HNL, ← unhide HSX] at M
                have M2 : Mem w w3 [.row (some ⟨g3, 0, none⟩) (sortT (T ++ [ttOf f])).length c3 3 1 ((A1 ++ [.int .i64 f.uid]) ++ D1), .row (some ⟨gz, 0, none⟩) (sortT (T ++ [ttOf f])).length cap3 9 1 (Plain.strs ((sortT (T ++ [ttOf f])).map (·.base))), .obj w.heap.size 34 [.string b.name, .int .i64 b.valid, .int .i64 b.next, .int .i64 b.mod, .slice (some ⟨gm, 0, none⟩) b.mails.length cm, .slice at1 b.tombs.length ct, .int .i64 b.hor]] := Mem.fin
                rw [← unhide HI] at M2
                rw [← unhide HNL]
                go_wp2
                go_roundw
                case rel => exact ⟨k + 1, c3, cap3, g3, gz, unhide HK, by go_num, by rw [unhide HE], by rw [unhide HE], by rw [unhide HE]; exact Mem.fin⟩
                case measure => have := unhide HK; simp [intOf]; omega
            · go_simp
              refine hK.out _ _ Mem.end ?_
              clear hK K
              try simp only [Act.put, p1, p2, p3]
              refine to_ 0 fun K hK => ?_
              go_simp
              refine hK.out _ _ Mem.end ?_
              clear hK K
              try simp only [Act.put, p1, p2, p3]
              have M := Mem.asRow (w := w) (W := (wc.drew.alloc (.cells #[.string ⟨nm.toArray⟩] 9)).alloc (.cells #[] 9)) (b := (wc.heap.size + 1)) (t := 9) 1
              refine to_ 4 fun K hK => ?_
              refine mem_append_at (M := M) (.tmp 70) (.tmp 73) 51 [] ⟨g2, 0, none⟩ A2 rfl rfl rfl (src_cells (M := M) (n := n) (c := c2) (t := 9) (xs := A2 ++ D2) 0 A2 fun j u hj => (by rw [Nat.zero_add]; exact getA hj)) (unhide wa2) (by rw [(unhide HLA).2.2.1, Nat.mul_one]) (by omega) (by decide) fun a1 cap1 w1 M => ?_
              try dsimp only at M
              rw [Nat.zero_add, List.nil_append] at M
              refine hK.out _ _ Mem.end ?_
              clear hK K
              try simp only [List.getElem_toArray, List.getElem_cons_succ, List.getElem_cons_zero]
              try simp only [Act.put, p1, p2, p3]
              try simp only [Nat.zero_add]
              refine to_ 7 fun K hK => ?_
              refine mem_append (.tmp 74) (.tmp 76) 51 A2 _ [.string ⟨nm.toArray⟩] rfl rfl rfl (by simp [Value.oneCell']) (by rfl) (by omega) (by decide) fun gq cap2 w2 M => ?_
              try dsimp only at M
              refine hK.out _ _ Mem.end ?_
              clear hK K
              try simp only [List.getElem_toArray, List.getElem_cons_succ, List.getElem_cons_zero]
              try simp only [Act.put, p1, p2, p3]
              refine to_ 11 fun K hK => ?_
              refine mem_append_at (.tmp 77) (.tmp 80) 51 (A2 ++ [.string ⟨nm.toArray⟩]) ad2 D2 rfl rfl rfl (fun j u hj => by rw [unhide HA2 (by have := (List.getElem?_eq_some_iff.1 hj).1; rw [(unhide HLA).2.2.2] at this; omega)]; exact src_cells (n := n) (c := c2) (t := 9) (xs := A2 ++ D2) p D2 (fun j u hj => getD ((unhide HLA).2.2.1) hj) j u hj) (unhide wd2) (by rw [(unhide HLA).2.2.2, Nat.mul_one]) (by omega) (by decide) fun a3 cap3 w3 M => ?_
              try dsimp only at M
              refine hK.out _ _ Mem.end ?_
              clear hK K
              try simp only [List.getElem_toArray, List.getElem_cons_succ, List.getElem_cons_zero]
              try simp only [Act.put, p1, p2, p3]
              refine tm 12 6 ?_
              refine td ?_
              obtain ⟨gz, rfl⟩ := M.addr (.row a3 (p + 1 + (n - p)) cap3 9 1 ((A2 ++ [.string ⟨nm.toArray⟩]) ++ D2)) rfl (by omega)
              rw [← unhide HNL, ← unhide HSX] at M
              have M2 : Mem w w3 [.row (some ⟨g3, 0, none⟩) (sortT (T ++ [ttOf f])).length c3 3 1 ((A1 ++ [.int .i64 f.uid]) ++ D1), .row (some ⟨gz, 0, none⟩) (sortT (T ++ [ttOf f])).length cap3 9 1 (Plain.strs ((sortT (T ++ [ttOf f])).map (·.base))), .obj w.heap.size 34 [.string b.name, .int .i64 b.valid, .int .i64 b.next, .int .i64 b.mod, .slice (some ⟨gm, 0, none⟩) b.mails.length cm, .slice at1 b.tombs.length ct, .int .i64 b.hor]] := Mem.fin
              rw [← unhide HI] at M2
              rw [← unhide HNL]
              go_wp2
              go_roundw
              case rel => exact ⟨k + 1, c3, cap3, g3, gz, unhide HK, by go_num, by rw [unhide HE], by rw [unhide HE], by rw [unhide HE]; exact Mem.fin⟩
              case measure => have := unhide HK; simp [intOf]; omega
    · obtain rfl : k = b.mails.length := by omega
      rw [selT_all] at M ⊢
      have hlen : Hid (X.length = (sortT (selT s b.mails)).length) := by show _ = _; rw [unhide HX, List.length_map]
      rw [← unhide HX, ← unhide hlen] at M
      rw [← unhide hlen]
      go_wp2
      go_ret
      exact ⟨some ⟨g1, 0, none⟩, c1, rfl, Mem.fin⟩
end Go.Proofs.YtihdgfihdecalaaGreatDoor
