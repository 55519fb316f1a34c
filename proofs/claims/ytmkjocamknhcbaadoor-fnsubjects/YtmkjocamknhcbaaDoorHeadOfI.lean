/- Mails: the program's firstTold, HeadOf. -/
import Derived.Test.YtmkjocamknhcbaaDoorSplitC
import Derived.Test.YtmkjocamknhcbaaDoorHeadI
import Derived.Test.YtmkjocamknhcbaaDoorMailI2
namespace Go.Proofs.YtmkjocamknhcbaaDoor
open Go.RowKit Go.Shelf
open Plain
set_option linter.unusedVariables false

attribute [local go_sem] Oper.semAt_some

theorem keepsM_below {W W' : World} (h : Below W.heap.size W W') : KeepsOthers W W' :=
  ⟨h.size, fun k o hk _ => (h.block k (Array.getElem?_eq_some_iff.1 hk).1).trans hk⟩
theorem boxedM_below {W W' : World} {B : Nat} {t : TypeId} {v : Value} (h : Below W.heap.size W W') (b : Boxed W B t v) : Boxed W' B t v := (h.block B b.lt).trans b

def linesP (pre : List Pt) : List (List UInt8) := pre.map ptOf
namespace Plain
/-- The first line that tells, by what each tells. -/
def firstV (h : List UInt8) : List (List UInt8) → List UInt8 × Bool
  | [] => ([], false)
  | p :: r => if (lineV h p).2 then lineV h p else firstV h r
theorem first_is (name : List UInt8) (ps : List (List UInt8)) : firstIn name ps = firstV (name.map lowB) ps := by
  induction ps with
  | nil => rfl
  | cons p r ih => rw [first_val, firstV, ih]
theorem firstV_no {h : List UInt8} {ps : List (List UInt8)} (hn : (firstV h ps).2 = false) : firstV h ps = ([], false) := by
  induction ps with
  | nil => rfl
  | cons p r ih =>
    rw [firstV] at hn ⊢
    split at hn
    · rename_i k; rw [k] at hn; cases hn
    · rename_i k; rw [if_neg k]; exact ih hn
theorem firstV_app {h : List UInt8} (ps qs : List (List UInt8)) : firstV h (ps ++ qs) = if (firstV h ps).2 then firstV h ps else firstV h qs := by
  induction ps with
  | nil => rfl
  | cons p r ih =>
    rw [List.cons_append, firstV, firstV]
    by_cases k : (lineV h p).2 = true
    · rw [if_pos k, if_pos k, if_pos k]
    · rw [if_neg k, if_neg k, ih]
theorem firstV_more {h : List UInt8} {ps : List (List UInt8)} (x : List UInt8) (hn : (firstV h ps).2 = false) : firstV h (ps ++ [x]) = if (lineV h x).2 then lineV h x else ([], false) := by
  rw [firstV_app, hn, if_neg (by decide)]
  rfl
theorem firstV_pre {h : List UInt8} {ps rs : List (List UInt8)} (hp : ps <+: rs) (hy : (firstV h ps).2 = true) : firstV h rs = firstV h ps := by
  obtain ⟨qs, rfl⟩ := hp
  rw [firstV_app, if_pos hy]
theorem firstV_len (h : List UInt8) (n : Nat) : ∀ ps : List (List UInt8), (∀ p ∈ ps, p.length ≤ n) → (firstV h ps).1.length ≤ n := by
  intro ps
  induction ps with
  | nil => intro _; exact Nat.zero_le _
  | cons p r ih =>
    intro hp
    rw [firstV]
    split
    · exact Nat.le_trans (lineV_len h p) (hp p (by simp))
    · exact ih (fun x hx => hp x (by simp [hx]))
theorem cuts_len (c : UInt8) : ∀ (l : List UInt8) (p : List UInt8), p ∈ cutsL c l → p.length ≤ l.length := by
  intro l
  induction l with
  | nil => intro p hp; simp [cutsL] at hp; subst hp; exact Nat.le_refl _
  | cons b r ih =>
    intro p hp
    rw [cutsL] at hp
    split at hp
    · rcases List.mem_cons.1 hp with rfl | hp
      · simp
      · have := ih p hp; simp; omega
    · cases hc : cutsL c r with
      | nil =>
        rw [hc] at hp
        simp at hp
        subst hp
        simp
      | cons q qs =>
        rw [hc] at hp
        simp only at hp
        rcases List.mem_cons.1 hp with rfl | hp
        · have := ih q (by rw [hc]; simp); simp; omega
        · have := ih p (by rw [hc]; simp [hp]); simp; omega
end Plain
/-- What the loop holds on to: nothing was told yet; what was told. -/
def InvT (w : World) (H : ByteArray) (pre : List Pt) (W : World) : Prop :=
  Boxed W w.heap.size 45 (.func (.func 33) #[.string H] #[]) ∧ (Boxed W (w.heap.size + 1) 9 (.string ⟨#[]⟩) ∧ Boxed W (w.heap.size + 2) 4 (.bool false)) ∧ (firstV H.data.toList (linesP pre)).2 = false ∧ Below w.heap.size w W ∧ w.heap.size + 6 ≤ W.heap.size
def InvU (w : World) (H : ByteArray) (pre : List Pt) (W : World) : Prop :=
  (Boxed W (w.heap.size + 1) 9 (.string ⟨(firstV H.data.toList (linesP pre)).1.toArray⟩) ∧ Boxed W (w.heap.size + 2) 4 (.bool true)) ∧ (firstV H.data.toList (linesP pre)).2 = true ∧ Below w.heap.size w W
theorem InvT.own (w : World) (H : ByteArray) (B : Nat) (hB : w.heap.size ≤ B) : OwnFrom B (InvT w H) :=
  OwnFrom.and (Own.from (boxed_own w.heap.size 45 (fun _ => (.func (.func 33) #[.string H] #[]))) _)
    (OwnFrom.and (OwnFrom.and (Own.from (boxed_own (w.heap.size + 1) 9 (fun _ => .string ⟨#[]⟩)) _) (Own.from (boxed_own (w.heap.size + 2) 4 (fun _ => .bool false)) _))
      (OwnFrom.and (ownFrom_pure _ (fun (pre : List Pt) => (firstV H.data.toList (linesP pre)).2 = false)) (OwnFrom.and (ownFrom_below (Nat.le_refl _) hB) (fun _ _ _ _ hs hg _ => Nat.le_trans hs hg.size))))
theorem InvU.own (w : World) (H : ByteArray) (B : Nat) (hB : w.heap.size ≤ B) : OwnFrom B (InvU w H) :=
  OwnFrom.and (OwnFrom.and (Own.from (boxed_own (w.heap.size + 1) 9 (fun (pre : List Pt) => .string ⟨(firstV H.data.toList (linesP pre)).1.toArray⟩)) _) (Own.from (boxed_own (w.heap.size + 2) 4 (fun _ => .bool true)) _))
    (OwnFrom.and (ownFrom_pure _ (fun (pre : List Pt) => (firstV H.data.toList (linesP pre)).2 = true)) (ownFrom_below (Nat.le_refl _) hB))
theorem InvT.moved (w : World) (H : ByteArray) (s : List Pt) (A : World) (v : Value) (h : InvT w H s A) : InvT w H s (A.setCell ⟨w.heap.size + 3, 0, none⟩ v) := by
  obtain ⟨h1, ⟨h2, h3⟩, h4, h5, h6⟩ := h
  exact ⟨h1.other (by omega) _, ⟨h2.other (by omega) _, h3.other (by omega) _⟩, h4, h5.setCell (p := ⟨w.heap.size + 3, 0, none⟩) (by show w.heap.size ≤ w.heap.size + 3; omega) v, by simpa using h6⟩

set_option maxRecDepth 100000 in
set_option maxHeartbeats 2000000 in
theorem firstTold_any (L H : ByteArray) (w : World) (hL : L.size ≤ 1048576) (hH : H.size ≤ 1048576) :
    Calls Tryd.prog 31 #[.string L, (.func (.func 33) #[.string H] #[])] w fun e w' => e = .returned (.tuple #[.string ⟨(firstV H.data.toList (cutsL 10 L.data.toList)).1.toArray⟩, .bool (firstV H.data.toList (cutsL 10 L.data.toList)).2]) ∧ Below w.heap.size w w' := by
  refine (callsIn_wide (n := 6)).1 ?_
  refine callsIn_of_wp_marks Tryd.func31 rfl trivial ?_ rfl
  simp only [Tryd.ntmps31, List.size_toArray, List.length_cons, List.length_nil, Nat.reduceAdd, Nat.reduceSub, Array.replicate_succ, Array.replicate_zero, List.push_toArray, List.append_toArray, List.nil_append, List.cons_append]
  gi_wp2_with (refine ⟨trivial, ?_⟩; gi_at_call 46; refine (SplitSeq_in 10 _ L _).mono ?_; rintro e w1 ⟨rfl, q1, q2, q3, q4⟩)
  have b0 := Boxed.new w 45 (.func (.func 33) #[.string H] #[])
  have b1 := Boxed.new (w.alloc (.cells #[(.func (.func 33) #[.string H] #[])] 45)) 9 (.string ⟨#[]⟩)
  have b2 := Boxed.new ((w.alloc (.cells #[(.func (.func 33) #[.string H] #[])] 45)).alloc (.cells #[.string ⟨#[]⟩] 9)) 4 (.bool false)
  rw [World.size_alloc] at b1
  rw [World.size_alloc, World.size_alloc] at b2
  obtain ⟨WA, hWA⟩ : ∃ WA, WA = ((w.alloc (.cells #[(.func (.func 33) #[.string H] #[])] 45)).alloc (.cells #[.string ⟨#[]⟩] 9)).alloc (.cells #[.bool false] 4) := ⟨_, rfl⟩
  have d0 : Boxed WA w.heap.size 45 (.func (.func 33) #[.string H] #[]) := by rw [hWA]; exact (b0.alloc _).alloc _
  have d1 : Boxed WA (w.heap.size + 1) 9 (.string ⟨#[]⟩) := by rw [hWA]; exact b1.alloc _
  have d2 : Boxed WA (w.heap.size + 2) 4 (.bool false) := by rw [hWA]; exact b2
  have hbA : Below w.heap.size w WA := by rw [hWA]; exact (((Below.refl _ w).alloc (Nat.le_refl _) _).alloc (by simp) _).alloc (by simp; omega) _
  have hsA : WA.heap.size = w.heap.size + 3 := by rw [hWA]; simp
  rw [← hWA] at q1 q2 q3 q4
  clear b0 b1 b2 hWA
  have hs1 : w1.heap.size = w.heap.size + 6 := by omega
  have q1' : SpBox 10 (w.heap.size + 1 + 1 + 1) w1 L := by rw [hsA] at q1; exact q1
  have hB1 : Below w.heap.size w w1 := below2 hbA q3
  have k0 := boxedM_below q3 d0
  have k1 := boxedM_below q3 d1
  have k2 := boxedM_below q3 d2
  have HS1 := hide hs1
  clear q1 q2 q3 q4 d0 d1 d2 hbA hsA
  refine wpIn_range_moves (by omega) (gf := 59) (lb := #[.pointer (some ⟨w.heap.size + 1 + 1 + 1 + 1, 0, none⟩), .pointer (some ⟨w.heap.size + 1 + 1 + 1, 0, none⟩), .pointer (some ⟨w.heap.size + 1 + 1 + 1 + 2, 0, none⟩)]) rfl (enters_of Tryd.func59 (by kernel_rfl) rfl)
    (split_moves 10 5 (by omega) (w.heap.size + 1 + 1 + 1) w.heap.size L hL w1 q1' (by omega)) KpS.t (KpS.b (by omega) (by omega)) (fun _ => rfl)
    (InvT w H) (InvU w H) (InvT.own w H _ (by omega)) (InvU.own w H _ (by omega)) (InvT.moved w H) ⟨k0, ⟨k1, k2⟩, rfl, hB1, by omega⟩
    (fun x => { tmps := #[.string L, (.func (.func 33) #[.string H] #[]), undef, .pointer (some ⟨w.heap.size, 0, none⟩), .pointer (some ⟨w.heap.size + 1, 0, none⟩), .pointer (some ⟨w.heap.size + 1 + 1, 0, none⟩), .string x.1, undef, undef, .string L, .func (.func 59) #[] #[.pointer (some ⟨w.heap.size + 1 + 1 + 1 + 1, 0, none⟩), .pointer (some ⟨w.heap.size + 1 + 1 + 1, 0, none⟩), .pointer (some ⟨w.heap.size + 1 + 1 + 1 + 2, 0, none⟩)], .string x.1, undef, undef, undef, undef, undef, undef, undef, undef], defers := [] }) ?assign ?body ?done ?stop
  case assign =>
    intro l x W K hK
    gi_wp2
    exact hK
  case body =>
    rintro l pre x W ⟨hv, ⟨hR1, hR2⟩, hok, hB, hsz⟩ hlt
    have RR := hide (valueIn_any H x.1 W hH x.2)
    have SN := hide (firstV_more (h := H.data.toList) (ps := linesP pre) x.1.data.toList hok)
    have LS : Hid (linesP (pre ++ [x]) = linesP pre ++ [x.1.data.toList]) := by
      show linesP (pre ++ [x]) = _
      unfold linesP
      rw [List.map_append]
      rfl
    have vc := hv.cell
    clear hok
    generalize lineV H.data.toList x.1.data.toList = r at *
    obtain ⟨rv, rb⟩ := r
    simp only at RR SN
    gi_wp2
    refine ⟨trivial, (CallsIn.inRound l (callsIn_wide.2 (unhide RR))).mono ?_⟩
    rintro e w2 ⟨rfl, hb2⟩
    have hB2 : Below w.heap.size w w2 := hB.trans (hb2.mono hB.size)
    have e0 := boxedM_below hb2 hv
    have e1 := boxedM_below hb2 hR1
    have e2 := boxedM_below hb2 hR2
    have KO2 := keepsM_below hb2
    have hsz2 : w.heap.size + 6 ≤ w2.heap.size := Nat.le_trans hsz hb2.size
    have KB := hide hb2
    clear hR1 hR2 hv hb2 RR vc
    have f1 := e1.cell
    have f2 : w2.cell? ⟨w.heap.size + 1 + 1, 0, none⟩ = some (.bool false) := e2.cell
    have g1 := e1.frozen
    have g2 : w2.frozen? ⟨w.heap.size + 1 + 1, 0, none⟩ = false := e2.frozen
    cases rb with
    | true =>
      have OX : Hid (firstV H.data.toList (linesP (pre ++ [x])) = (rv, true)) := by
        show firstV _ _ = _
        rw [unhide LS, unhide SN]
        rfl
      gi_wp2
      have n12 : w.heap.size + 1 ≠ w.heap.size + 2 := by omega
      refine ⟨((KO2.trans (KeepsOthers.setCell _ _ _)).trans (KeepsOthers.setCell _ _ _)).from _, ⟨?_, (e2.other n12.symm _).set (.bool true)⟩, by rw [unhide OX], (hB2.setCell (p := ⟨w.heap.size + 1, 0, none⟩) (by show w.heap.size ≤ w.heap.size + 1; omega) _).setCell (p := ⟨w.heap.size + 2, 0, none⟩) (by show w.heap.size ≤ w.heap.size + 2; omega) _⟩
      rw [unhide OX]
      exact (e1.set (.string ⟨rv.toArray⟩)).other n12 _
    | false =>
      have OX : Hid (firstV H.data.toList (linesP (pre ++ [x])) = ([], false)) := by
        show firstV _ _ = _
        rw [unhide LS, unhide SN]
        rfl
      gi_wp2
      refine ⟨KO2.from _, ⟨(unhide KB).mono hB.size, fun k h1 h2 => (unhide KB).block k (by omega)⟩, e0, ⟨e1, e2⟩, by rw [unhide OX], hB2, hsz2⟩
  case done =>
    rintro D ys W hD hS0 ⟨hv, ⟨hR1, hR2⟩, hok, hB, hsz⟩ hK
    have hDs : w.heap.size + 6 ≤ D := by have := unhide HS1; omega
    have FV : Hid (firstV H.data.toList (cutsL 10 L.data.toList) = ([], false)) := by
      show firstV _ _ = _
      rw [← show linesP ys = cutsL 10 L.data.toList from hS0]
      exact firstV_no hok
    clear hok hS0
    have c1 := hR1.cell
    have c2 : W.cell? ⟨w.heap.size + 1 + 1, 0, none⟩ = some (.bool false) := hR2.cell
    have z1 := hR1.frozen
    have z2 : W.frozen? ⟨w.heap.size + 1 + 1, 0, none⟩ = false := hR2.frozen
    gi_wp2
    have n12 : w.heap.size + 1 ≠ w.heap.size + 2 := by omega
    have r1 := (hR1.set (.string ⟨#[]⟩)).other n12 (.bool false)
    have r2 := (hR2.other n12.symm (.string ⟨#[]⟩)).set (.bool false)
    have hK6 : ((W.setCell ⟨w.heap.size + 1, 0, none⟩ (.string ⟨#[]⟩)).setCell ⟨w.heap.size + 2, 0, none⟩ (.bool false)).heap[D]? = some (.deferred (some [])) := ((KeepsOthers.setCell _ _ _).trans (KeepsOthers.setCell _ _ _)).same D _ hK rfl
    have hB6 : Below w.heap.size w ((W.setCell ⟨w.heap.size + 1, 0, none⟩ (.string ⟨#[]⟩)).setCell ⟨w.heap.size + 2, 0, none⟩ (.bool false)) := (hB.setCell (p := ⟨w.heap.size + 1, 0, none⟩) (by show w.heap.size ≤ w.heap.size + 1; omega) _).setCell (p := ⟨w.heap.size + 2, 0, none⟩) (by show w.heap.size ≤ w.heap.size + 2; omega) _
    generalize (W.setCell ⟨w.heap.size + 1, 0, none⟩ (.string ⟨#[]⟩)).setCell ⟨w.heap.size + 2, 0, none⟩ (.bool false) = W6 at *
    refine ⟨by simp, .inl ⟨_, _, rfl, run_takeDeferred hK6, ?_⟩⟩
    have g1 := (r1.kept (grownBy_putObj' W6 D (.deferred none)) (by simp; omega)).cell
    have g2 := (r2.kept (grownBy_putObj' W6 D (.deferred none)) (by simp; omega)).cell
    refine ⟨_, by simp [results, Tryd.results31, go_sem, g1, g2]; try rfl, ?_, ?_⟩
    · rw [unhide FV]
    · exact hB6.trans (belowK_b (w := w) (Nat.le_refl _) W6 D _ _ (by omega) hK6 rfl rfl)
  case stop =>
    rintro D pre W hD hSp ⟨⟨hR1, hR2⟩, hok, hB⟩ hK
    have NO := hide (firstV_pre hSp hok)
    have OK := hide hok
    clear hok
    gi_wp2
    refine ⟨by simp, .inl ⟨_, _, rfl, run_takeDeferred hK, ?_⟩⟩
    have hDs : w.heap.size + 6 ≤ D := by have := unhide HS1; omega
    have g1 := (hR1.kept (grownBy_putObj' W D (.deferred none)) (by simp; omega)).cell
    have g2 := (hR2.kept (grownBy_putObj' W D (.deferred none)) (by simp; omega)).cell
    refine ⟨_, by simp [results, Tryd.results31, go_sem, g1, g2]; try rfl, ?_, ?_⟩
    · have h1 := unhide NO
      have h2 : (firstV H.data.toList (pre.map ptOf)).2 = true := unhide OK
      rw [h1, h2]
      rfl
    · exact hB.trans (belowK_b (w := w) (Nat.le_refl _) W D _ _ (by omega) hK rfl rfl)

set_option maxHeartbeats 2000000 in
set_option maxRecDepth 100000 in
theorem impl_HeadOf_any (s name : ByteArray) (w : World) (hs : s.size ≤ 1048576) (hn : name.size ≤ 1048576) :
    Calls Tryd.prog 11 #[.string s, .string name] w fun e w' => e = .returned (.tuple #[.string ⟨(headL s.data.toList name.data.toList).1.toArray⟩, .bool (headL s.data.toList name.data.toList).2]) ∧ Below w.heap.size w w' := by
  have C := hide (cutMail_any s w hs)
  have V : Hid (headL s.data.toList name.data.toList = firstV (name.data.toList.map lowB) (cutsL 10 (headsFrom true s.data.toList))) := by
    show headL _ _ = _
    rw [headL_first, first_is]
  have hh := heads_len s.data.toList true
  have hl : s.data.toList.length = s.size := rfl
  have S := hide (fun W => small_any name W hn)
  have T := hide (fun W => firstTold_any ⟨(headsFrom true s.data.toList).toArray⟩ ⟨(name.data.toList.map lowB).toArray⟩ W (by show (headsFrom true s.data.toList).length ≤ 1048576; omega) (by show (name.data.toList.map lowB).toArray.size ≤ 1048576; simpa using hn))
  have LN := firstV_len (name.data.toList.map lowB) s.size (cutsL 10 (headsFrom true s.data.toList)) (fun p hp => by have := cuts_len 10 _ p hp; omega)
  rw [show (⟨(headsFrom true s.data.toList).toArray⟩ : ByteArray).data.toList = headsFrom true s.data.toList from rfl, show (⟨(name.data.toList.map lowB).toArray⟩ : ByteArray).data.toList = name.data.toList.map lowB from rfl] at T
  generalize firstV (name.data.toList.map lowB) (cutsL 10 (headsFrom true s.data.toList)) = r at *
  obtain ⟨rv, rb⟩ := r
  simp only at T LN
  have KC := hide (fun W => Clone_any ⟨rv.toArray⟩ W (by show rv.length ≤ _; omega))
  clear hh hl LN
  generalize (⟨(headsFrom true s.data.toList).toArray⟩ : ByteArray) = X at *
  generalize (⟨(bodyL s.data.toList).toArray⟩ : ByteArray) = Y at *
  generalize (⟨(name.data.toList.map lowB).toArray⟩ : ByteArray) = Z at *
  go_enter Tryd.func11, Tryd.ntmps11
  go_wp2_with fail
  refine (unhide C).mono ?_
  rintro e w1 ⟨rfl, hb⟩
  have B1 := hide hb
  clear hb
  go_wp2_with fail
  refine (unhide S _).mono ?_
  rintro e w2 ⟨rfl, hb⟩
  have B2 := hide ((unhide B1).trans (hb.mono (unhide B1).size))
  clear hb
  go_wp2_with fail
  refine (unhide T _).mono ?_
  rintro e w3 ⟨rfl, hb⟩
  have B3 := hide ((unhide B2).trans (hb.mono (unhide B2).size))
  clear hb
  go_wp2_with fail
  refine (unhide KC _).mono ?_
  rintro e w4 ⟨rfl, hb⟩
  have B4 := hide ((unhide B3).trans (hb.mono (unhide B3).size))
  clear hb
  go_wp2
  go_ret2
  exact ⟨by rw [unhide V]; rfl, unhide B4⟩
end Go.Proofs.YtmkjocamknhcbaaDoor
