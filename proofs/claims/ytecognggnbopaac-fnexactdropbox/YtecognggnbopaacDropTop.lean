/- The program's DropBox: several texts in one. -/
import Derived.Test.YtecognggnbopaacOpenRow
import Derived.Test.YtecognggnbopaacDeletePlain
import Derived.LaidEqlPtr
import Derived.Test.YtecognggnbopaacOpenI2
import Derived.Test.YtecognggnbopaacForgetI
import Derived.Test.YtecognggnbopaacDropPlain
import Derived.Test.YtecognggnbopaacPutBoxI
import Derived.Test.YtecognggnbopaacStoreOkI
/- Pointers out of which one goes: slices.IndexFunc, ContainsFunc and DeleteFunc at whatever function that only reads; the program's hasBut and drop. Made by gen_droppt.py. -/
namespace Go.Proofs.Ytecognggnbopaac
open Go.RowKit
open Plain
set_option linter.unusedVariables false
set_option linter.unusedSimpArgs false

theorem infoB : ∃ j, Try.prog.info? 53 = some j ∧ j.size ≠ 0 := by
  obtain ⟨i, h1, h2, h3, h4⟩ := info_parts Try.infoBox
  exact ⟨i, h1, by rw [h3]; decide⟩
theorem eql_ptr (w : World) (g q : Nat) {vs us : List Value} (h1 : HasObj w g 53 vs) (h2 : HasObj w q 53 us) : (binOp .eql 63 (.pointer (some ⟨g, 0, none⟩)) (.pointer (some ⟨q, 0, none⟩))).run Try.prog w = .ok (.bool (decide (g = q))) w := by
  obtain ⟨j, hj, hz⟩ := infoB
  by_cases e : g = q
  · subst e
    rw [decide_eq_true rfl]
    exact run_eql_ptr_same w _ Try.underlying63 hj
  · rw [decide_eq_false e]
    exact run_eql_ptr_other w Try.underlying63 hj hz (fun h => e (by injection h)) h1 h2
theorem neq_ptr (w : World) (g q : Nat) {vs us : List Value} (h1 : HasObj w g 53 vs) (h2 : HasObj w q 53 us) : (binOp .neq 63 (.pointer (some ⟨g, 0, none⟩)) (.pointer (some ⟨q, 0, none⟩))).run Try.prog w = .ok (.bool (decide (g ≠ q))) w := by
  obtain ⟨j, hj, hz⟩ := infoB
  have hu : Try.prog.underlying 63 = some (.pointer 53) := Try.underlying63
  by_cases e : g = q
  · subst e
    have h : ∀ d : Nat, (Op.equalIn (d + 1) 63 (.pointer (some ⟨g, 0, none⟩)) (.pointer (some ⟨g, 0, none⟩))).run Try.prog w = .ok true w := fun d => by
      simp [Op.equalIn, run_underlying hu, sizeOf, typeInfo, hj, run_sameAddr_same]
    simp only [binOp]
    simp [Op.equal, Op.maxDepth, h 9999]
  · have hne : (⟨g, 0, none⟩ : Addr) ≠ ⟨q, 0, none⟩ := fun h => e (by injection h)
    have h : ∀ d : Nat, (Op.equalIn (d + 1) 63 (.pointer (some ⟨g, 0, none⟩)) (.pointer (some ⟨q, 0, none⟩))).run Try.prog w = .ok false w := fun d => by
      simp [Op.equalIn, run_underlying hu, sizeOf, typeInfo, hj, hz, run_sameAddr_other w hne h1 h2]
    simp only [binOp]
    simp [Op.equal, Op.maxDepth, h 9999, e]
theorem some_flip (g q : Nat) : decide (some q ≠ some g) = decide (g ≠ q) := by
  rw [Bool.eq_iff_iff, decide_eq_true_iff, decide_eq_true_iff]
  exact ⟨fun h e => h (by rw [e]), fun h e => h (by injection e with e; exact e.symm)⟩
set_option maxHeartbeats 2000000 in
set_option maxRecDepth 100000 in
theorem but1_any (g : Nat) (o : Option Nat) (c : Nat) (w : World) (h : HasObj w c 63 [ptrOf o]) {vs : List Value} (hg : HasObj w g 53 vs) (ho : ∀ q, o = some q → ∃ us, HasObj w q 53 us) :
    Calls Try.prog 65 #[.pointer (some ⟨g, 0, none⟩), .pointer (some ⟨c, 0, none⟩)] w fun e w' => e = .returned (.bool (decide (o ≠ some g))) ∧ Below w.heap.size w w' := by
  have c0 := h.cell 0 rfl
  cases o with
  | none =>
    simp only [ptrOf] at c0
    clear h ho hg
    go_enter Try.func65, Try.ntmps65
    go_wp2
    go_ret
    exact ⟨by simp, Below.refl _ _⟩
  | some q =>
    simp only [ptrOf] at c0
    obtain ⟨us, hq⟩ := ho q rfl
    have E := neq_ptr w g q hg hq
    have ED : Hid (decide (some q ≠ some g) = decide (g ≠ q)) := some_flip g q
    obtain ⟨d, hd⟩ : ∃ d, d = decide (g ≠ q) := ⟨_, rfl⟩
    rw [← hd] at E ED
    clear h ho hg hq hd
    go_enter Try.func65, Try.ntmps65
    go_wp2
    go_ret
    exact ⟨by rw [unhide ED]; rfl, Below.refl _ _⟩
set_option maxRecDepth 100000 in
theorem drop1_any (g q : Nat) (c : Nat) (w : World) (h : HasObj w c 63 [.pointer (some ⟨q, 0, none⟩)]) {vs us : List Value} (hg : HasObj w g 53 vs) (hq : HasObj w q 53 us) :
    Calls Try.prog 67 #[.pointer (some ⟨g, 0, none⟩), .pointer (some ⟨c, 0, none⟩)] w fun e w' => e = .returned (.bool (decide (g = q))) ∧ Below w.heap.size w w' := by
  have c0 := h.cell 0 rfl
  have E := eql_ptr w g q hg hq
  obtain ⟨d, hd⟩ : ∃ d, d = decide (g = q) := ⟨_, rfl⟩
  rw [← hd] at E ⊢
  clear h hg hq hd
  go_enter Try.func67, Try.ntmps67
  go_wp2
  go_ret
  exact ⟨rfl, Below.refl _ _⟩
abbrev fnV (f c : Nat) : Value := .func (.func f) #[] #[.pointer (some ⟨c, 0, none⟩)]
set_option maxHeartbeats 2000000 in
set_option maxRecDepth 100000 in
theorem indexBut (l : List Nat) (v : Value) (B c : Nat) (p : Nat → Bool) (w : World) (hs : l.length ≤ 4000000) (h : OwnPt B w v l)
    (CL : ∀ (g : Nat) (W : World), g ∈ l → Below w.heap.size w W → Calls Try.prog 65 #[.pointer (some ⟨g, 0, none⟩), .pointer (some ⟨c, 0, none⟩)] W fun e w' => e = .returned (.bool (p g)) ∧ Below W.heap.size W w') :
    Calls Try.prog 86 #[v, fnV 65 c] w fun e w' => (∃ r : Int, e = .returned (.int .i64 r) ∧ ((r = -1 ∧ ∀ j (hj : j < l.length), p l[j] = false) ∨ ∃ k : Nat, r = k ∧ ∃ hk : k < l.length, (∀ j (hj : j < k), p l[j] = false) ∧ p l[k] = true)) ∧ Below w.heap.size w w' := by
  obtain ⟨a0, c0, rfl⟩ := g_shape h
  have CC := hide CL
  have HO := hide (fun (W : World) (hb : Below w.heap.size w W) k g hx => pt_read (h.up hb) (k := k) (g := g) hx)
  clear h CL
  go_enter Try.func86, Try.ntmps86
  go_wp2
  go_loopw [8] (fun i wr => ∃ k : Nat, k ≤ l.length ∧ i = .int .i64 k ∧ (∀ j (hj : j < l.length), j < k → p l[j] = false) ∧ Below w.heap.size w wr) (fun i _ => l.length - (intOf i).toNat)
  case atStart => exact ⟨0, Nat.zero_le _, rfl, fun j _ hj => by omega, Below.refl _ _⟩
  case round =>
    obtain ⟨k, hk, rfl, hall, hbel⟩ := hrel
    by_cases hlt : k < l.length
    · have hgk : l[k]? = some l[k] := List.getElem?_eq_getElem hlt
      obtain ⟨g, c', e, pc⟩ := unhide HO wr hbel k _ hgk
      cases e
      have ON : Hid (p l[k] = false → ∀ j (hj : j < l.length), j < k + 1 → p l[j] = false) := fun h j hj hjk => by
        by_cases e : j = k
        · subst e; exact h
        · exact hall j hj (by omega)
      have YES : Hid (p l[k] = true → ∃ k' : Nat, (k : Int) = k' ∧ ∃ hk : k' < l.length, (∀ j (hj : j < k'), p l[j] = false) ∧ p l[k'] = true) := fun h => ⟨k, rfl, hlt, fun j hj => hall j (by omega) hj, h⟩
      have Q := hide (unhide CC l[k] wr (List.getElem_mem hlt) hbel)
      generalize l[k] = x at *
      have i1 : (0 : Int) ≤ (k : Int) := by omega
      have i2 : (k : Int) < (l.length : Int) := by omega
      have BB := hide hbel
      clear hbel hall hgk
      go_wp2_with fail
      refine (unhide Q).mono ?_
      rintro e w1 ⟨rfl, hb1⟩
      have B1 := hide (below2 (unhide BB) hb1)
      clear hb1 Q pc
      cases hm : p x with
      | false =>
        have on := hide (unhide ON hm)
        clear hm ON YES
        go_wp2
        go_roundw
        case rel => exact ⟨k + 1, by omega, by go_num, unhide on, unhide B1⟩
        case measure => simp [intOf]; omega
      | true =>
        have yes := hide (unhide YES hm)
        clear hm ON YES
        go_wp2
        go_ret
        exact ⟨⟨_, rfl, .inr (unhide yes)⟩, unhide B1⟩
    · have V : Hid (∀ j (hj : j < l.length), p l[j] = false) := fun j hj => hall j hj (by omega)
      obtain rfl : k = l.length := by omega
      have BB := hide hbel
      clear hbel hall
      go_wp2
      go_ret
      exact ⟨⟨_, rfl, .inl ⟨rfl, unhide V⟩⟩, unhide BB⟩
set_option maxRecDepth 100000 in
theorem containsBut (l : List Nat) (v : Value) (B c : Nat) (p : Nat → Bool) (w : World) (hs : l.length ≤ 4000000) (h : OwnPt B w v l)
    (CL : ∀ (g : Nat) (W : World), g ∈ l → Below w.heap.size w W → Calls Try.prog 65 #[.pointer (some ⟨g, 0, none⟩), .pointer (some ⟨c, 0, none⟩)] W fun e w' => e = .returned (.bool (p g)) ∧ Below W.heap.size W w') :
    Calls Try.prog 64 #[v, fnV 65 c] w fun e w' => e = .returned (.bool (l.any p)) ∧ Below w.heap.size w w' := by
  have IX := hide (indexBut l v B c p w hs h CL)
  obtain ⟨a0, c0, rfl⟩ := g_shape h
  clear h CL
  go_enter Try.func64, Try.ntmps64
  go_wp2_with fail
  refine (unhide IX).mono ?_
  rintro e w1 ⟨⟨r, rfl, hr⟩, hb1⟩
  rcases hr with ⟨rfl, hall⟩ | ⟨k, rfl, hk, hlow, hat⟩
  · have EF : Hid (l.any p = false) := List.any_eq_false.2 (fun x hx => by
      obtain ⟨j, hj, rfl⟩ := List.getElem_of_mem hx
      rw [hall j hj]; decide)
    have BB := hide hb1
    clear hall hb1 IX
    go_wp2
    go_ret
    exact ⟨by rw [unhide EF]; rfl, unhide BB⟩
  · have EF : Hid (l.any p = true) := List.any_eq_true.2 ⟨_, List.getElem_mem hk, hat⟩
    have BB := hide hb1
    have i1 : (0 : Int) ≤ (k : Int) := by omega
    clear hlow hat hb1 IX
    go_wp2
    go_ret
    exact ⟨by rw [unhide EF]; rfl, unhide BB⟩
set_option maxHeartbeats 2000000 in
set_option maxRecDepth 100000 in
theorem indexGone (l : List Nat) (v : Value) (B c : Nat) (p : Nat → Bool) (w : World) (hs : l.length ≤ 4000000) (h : OwnPt B w v l)
    (CL : ∀ (g : Nat) (W : World), g ∈ l → Below w.heap.size w W → Calls Try.prog 67 #[.pointer (some ⟨g, 0, none⟩), .pointer (some ⟨c, 0, none⟩)] W fun e w' => e = .returned (.bool (p g)) ∧ Below W.heap.size W w') :
    Calls Try.prog 86 #[v, fnV 67 c] w fun e w' => (∃ r : Int, e = .returned (.int .i64 r) ∧ ((r = -1 ∧ ∀ j (hj : j < l.length), p l[j] = false) ∨ ∃ k : Nat, r = k ∧ ∃ hk : k < l.length, (∀ j (hj : j < k), p l[j] = false) ∧ p l[k] = true)) ∧ Below w.heap.size w w' := by
  obtain ⟨a0, c0, rfl⟩ := g_shape h
  have CC := hide CL
  have HO := hide (fun (W : World) (hb : Below w.heap.size w W) k g hx => pt_read (h.up hb) (k := k) (g := g) hx)
  clear h CL
  go_enter Try.func86, Try.ntmps86
  go_wp2
  go_loopw [8] (fun i wr => ∃ k : Nat, k ≤ l.length ∧ i = .int .i64 k ∧ (∀ j (hj : j < l.length), j < k → p l[j] = false) ∧ Below w.heap.size w wr) (fun i _ => l.length - (intOf i).toNat)
  case atStart => exact ⟨0, Nat.zero_le _, rfl, fun j _ hj => by omega, Below.refl _ _⟩
  case round =>
    obtain ⟨k, hk, rfl, hall, hbel⟩ := hrel
    by_cases hlt : k < l.length
    · have hgk : l[k]? = some l[k] := List.getElem?_eq_getElem hlt
      obtain ⟨g, c', e, pc⟩ := unhide HO wr hbel k _ hgk
      cases e
      have ON : Hid (p l[k] = false → ∀ j (hj : j < l.length), j < k + 1 → p l[j] = false) := fun h j hj hjk => by
        by_cases e : j = k
        · subst e; exact h
        · exact hall j hj (by omega)
      have YES : Hid (p l[k] = true → ∃ k' : Nat, (k : Int) = k' ∧ ∃ hk : k' < l.length, (∀ j (hj : j < k'), p l[j] = false) ∧ p l[k'] = true) := fun h => ⟨k, rfl, hlt, fun j hj => hall j (by omega) hj, h⟩
      have Q := hide (unhide CC l[k] wr (List.getElem_mem hlt) hbel)
      generalize l[k] = x at *
      have i1 : (0 : Int) ≤ (k : Int) := by omega
      have i2 : (k : Int) < (l.length : Int) := by omega
      have BB := hide hbel
      clear hbel hall hgk
      go_wp2_with fail
      refine (unhide Q).mono ?_
      rintro e w1 ⟨rfl, hb1⟩
      have B1 := hide (below2 (unhide BB) hb1)
      clear hb1 Q pc
      cases hm : p x with
      | false =>
        have on := hide (unhide ON hm)
        clear hm ON YES
        go_wp2
        go_roundw
        case rel => exact ⟨k + 1, by omega, by go_num, unhide on, unhide B1⟩
        case measure => simp [intOf]; omega
      | true =>
        have yes := hide (unhide YES hm)
        clear hm ON YES
        go_wp2
        go_ret
        exact ⟨⟨_, rfl, .inr (unhide yes)⟩, unhide B1⟩
    · have V : Hid (∀ j (hj : j < l.length), p l[j] = false) := fun j hj => hall j hj (by omega)
      obtain rfl : k = l.length := by omega
      have BB := hide hbel
      clear hbel hall
      go_wp2
      go_ret
      exact ⟨⟨_, rfl, .inl ⟨rfl, unhide V⟩⟩, unhide BB⟩
theorem zeroPtr (w : World) : (zeroValue 63).run Try.prog w = .ok (.pointer none) w := by kernel_rfl
theorem rowP_take {l : List Nat} {i : Nat} (hi : i ≤ l.length) : (rowC ptC l).take i = rowC ptC (l.take i) := by
  have e : rowC ptC l = rowC ptC (l.take i) ++ rowC ptC (l.drop i) := by rw [← rowC_append, List.take_append_drop]
  have hl : (rowC ptC (l.take i)).length = i := by rw [rowC_len ptC_len, List.length_take, Nat.min_eq_left hi, Nat.mul_one]
  rw [e, List.take_append_of_le_length (by omega), List.take_of_length_le (by omega)]
theorem pt_cells {w : World} {B g n cap : Nat} {l : List Nat} (h : w.ownsRow B 63 1 (.slice (some ⟨g, 0, none⟩) n cap) n (rowC ptC l)) {k x : Nat} (hx : l[k]? = some x) (hk : k < n) : w.cell? ⟨g, k, none⟩ = some (.pointer (some ⟨x, 0, none⟩)) := by
  rw [h.cellAt _ (by omega)]
  have h9 := rowC_get ptC_len hx (j := 0) (by decide)
  rw [Nat.mul_one, Nat.add_zero] at h9
  exact h9
set_option maxHeartbeats 4000000 in
set_option maxRecDepth 100000 in
theorem deleteGone (l : List Nat) (v : Value) (B c : Nat) (p : Nat → Bool) (w : World) (hs : l.length ≤ 4000000) (h : OwnPt B w v l)
    (CL : ∀ (g : Nat) (W : World), g ∈ l → w.grownBy W v.ownBlock → Calls Try.prog 67 #[.pointer (some ⟨g, 0, none⟩), .pointer (some ⟨c, 0, none⟩)] W fun e w' => e = .returned (.bool (p g)) ∧ Below W.heap.size W w') :
    Calls Try.prog 66 #[v, fnV 67 c] w fun e w' => ∃ v', e = .returned v' ∧ OwnPt B w' v' (l.filter (fun g => !p g)) ∧ w.grownBy w' v.ownBlock := by
  have IX := hide (indexGone l v B c p w hs h (fun g W hg hb => CL g W hg (g_grown hb _)))
  have HO := hide h
  have CC := hide CL
  obtain ⟨a0, c0, rfl⟩ := g_shape h
  clear h CL
  go_enter Try.func66, Try.ntmps66
  go_wp2_with fail
  refine (unhide IX).mono ?_
  rintro e w1 ⟨⟨r, rfl, hr⟩, hb1⟩
  rcases hr with ⟨rfl, hall⟩ | ⟨k, rfl, hk, hlow, hat⟩
  · have EF : Hid (l.filter (fun g => !p g) = l) := List.filter_eq_self.2 (fun t ht => by
      obtain ⟨j, hj, rfl⟩ := List.getElem_of_mem ht
      rw [hall j hj]; rfl)
    have BB := hide hb1
    clear hall hb1 IX
    go_wp2
    go_ret
    exact ⟨_, rfl, by rw [unhide EF]; exact (unhide HO).up (unhide BB), g_grown (unhide BB) _⟩
  · rcases (unhide HO).2 with ⟨_, h0⟩ | ⟨g, cap, cur0, e, hgB, _⟩
    · omega
    cases e
    have INV := hide (GoInv.start (p := fun g => !p g) hk (fun j hj => by rw [hlow j hj]; rfl) (by rw [hat]; rfl))
    have HO1 := hide ((unhide HO).up hb1)
    have GB := hide (g_grown hb1 (some g))
    have n1 : ((k : Int) == -1) = false := beq_eq_false_iff_ne.2 (by omega)
    have n2 : IntKind.i64.wrap ((k : Int) + 1) = (k : Int) + 1 := by rw [IntKind.wrap_i64]; omega
    clear hlow hat hb1 IX
    go_wp2
    clear n1 n2
    go_loopw [5, 6] (fun iv jv wr => ∃ (i j : Nat) (cur : List Nat), iv = .int .i64 i ∧ jv = .int .i64 j ∧ GoInv (fun g => !p g) l cur i j ∧ OwnPt B wr (.slice (some ⟨g, 0, none⟩) l.length c0) cur ∧ w.grownBy wr (some g)) (fun _ jv _ => l.length - (intOf jv).toNat)
    case atStart => exact ⟨k, k + 1, l, rfl, by go_num, unhide INV, unhide HO1, unhide GB⟩
    clear INV HO1 GB
    case round =>
      obtain ⟨i, j, cur, rfl, rfl, hinv, hown, hgr⟩ := hrel
      have hli := hinv.lt
      have hle := hinv.le
      have hcl := hinv.len
      have own2 : wr.ownsRow B 63 1 (.slice (some ⟨g, 0, none⟩) l.length c0) l.length (rowC ptC cur) := by have h9 := hown; unfold OwnPt at h9; rw [hcl] at h9; exact h9
      by_cases hlt : j < l.length
      · have d0 := pt_cells own2 (hinv.at hlt) hlt
        have KEEP := hide (fun h => hinv.keep hlt h)
        have SKIP := hide (fun h => hinv.skip hlt h)
        have hgi : cur[i]? = some (cur[i]'(by omega)) := List.getElem?_eq_getElem (by omega)
        have Q := hide (unhide CC l[j] wr (List.getElem_mem hlt) hgr)
        generalize l[j] = x at *
        generalize cur[i]'(by omega) = y at *
        have OW := hide own2
        have GR := hide hgr
        have HGI := hide hgi
        have i1 : (0 : Int) ≤ (j : Int) := by omega
        have i2 : (j : Int) < (l.length : Int) := by omega
        have i3 : (0 : Int) ≤ (i : Int) := by omega
        have i4 : (i : Int) < (l.length : Int) := by omega
        have n1 : IntKind.i64.wrap ((i : Int) + 1) = (i : Int) + 1 := by rw [IntKind.wrap_i64]; omega
        have n2 : IntKind.i64.wrap ((j : Int) + 1) = (j : Int) + 1 := by rw [IntKind.wrap_i64]; omega
        have HCL := hide hcl
        clear hinv hown own2 hgr hgi hcl
        go_wp2_with fail
        clear d0
        refine (unhide Q).mono ?_
        rintro e w2 ⟨rfl, hb2⟩
        have own2 := g_stays (unhide OW) hb2
        have gr2 := hide (g_then (unhide GR) hb2)
        clear hb2 Q
        cases hm : p x with
        | false =>
          have on := hide (unhide KEEP (by rw [hm]; rfl))
          have f0 := own2.frozenAt i
          have d0 := pt_cells own2 (unhide HGI) (by omega)
          have st0 := own2.stored i (.pointer (some ⟨x, 0, none⟩))
          have es : (rowC ptC cur).set i (.pointer (some ⟨x, 0, none⟩)) = rowC ptC (cur.set i x) := by have h9 := rowC_set ptC_len (unhide HGI) (j := 0) (by decide) x (.pointer (some ⟨x, 0, none⟩)) rfl; rw [Nat.mul_one, Nat.add_zero] at h9; exact h9
          rw [es] at st0
          have HST := hide st0.1
          have G3 := hide (g_store (j := i) (unhide gr2) (.pointer (some ⟨x, 0, none⟩)))
          clear hm KEEP SKIP own2 st0 es
          go_wp2
          go_roundw
          case rel =>
            refine ⟨i + 1, j + 1, _, by go_num, by go_num, unhide on, ?_, unhide G3⟩
            have h9 := unhide HST
            unfold OwnPt
            rw [List.length_set, unhide HCL]
            exact h9
          case measure => simp [intOf]; omega
        | true =>
          have on := hide (unhide SKIP (by rw [hm]; rfl))
          have O2 := hide own2
          clear hm KEEP SKIP own2
          go_wp2
          go_roundw
          case rel =>
            refine ⟨i, j + 1, _, rfl, by go_num, unhide on, ?_, unhide gr2⟩
            have h9 := unhide O2
            unfold OwnPt
            rw [unhide HCL]
            exact h9
          case measure => simp [intOf]; omega
      · obtain rfl : j = l.length := by omega
        have DN := hide hinv.done
        have hcap : l.length ≤ c0 := by
          rcases own2.2 with ⟨h1, _⟩ | ⟨_, _, _, h1, _, _, h2, _⟩
          · cases h1
          · cases h1; exact h2
        have i3 : (0 : Int) ≤ (i : Int) := by omega
        have i4 : (i : Int) ≤ (l.length : Int) := by omega
        have hcl2 := fun ty => run_clear_row (P := Try.prog) wr 58 63 ty (.pointer none) Try.underlying58 zeroPtr g i (l.length - i) (c0 - i) (by omega) (fun j hj => by
          rw [own2.cellAt (i + j) (by simp [Value.cells] at hj; omega)]
          rw [List.getElem?_eq_getElem (by rw [rowC_len ptC_len, hcl]; simp [Value.cells] at hj; omega)]; rfl) (fun j hj => own2.frozenAt _) (by
          intro u hu
          simp [Builtin.zeroCells, Value.cells] at hu
          obtain ⟨a, ha, rfl⟩ := hu
          rw [Nat.mod_one]; rfl)
        obtain ⟨ys, oy, ey, gy⟩ := own_cells (Builtin.zeroCells (Value.pointer none).cells (l.length - i)).toList i wr _ own2
        have oc := own_cut oy (i := i) (by omega)
        rw [Nat.mul_one, ey] at oc
        have OC := hide oc
        have GY := hide (g_join hgr gy)
        have HCL := hide hcl
        generalize (wr.setCells g i (Builtin.zeroCells (Value.pointer none).cells (l.length - i)).toList) = Z at *
        clear hinv hown own2 hgr oy ey gy oc hcl
        go_wp2
        go_ret
        refine ⟨_, rfl, ?_, unhide GY⟩
        unfold OwnPt
        rw [(unhide DN).2]
        have h9 := unhide OC
        have e9 : (rowC ptC cur).take i = rowC ptC (cur.take i) := rowP_take (by rw [unhide HCL]; omega)
        rw [e9, (unhide DN).1] at h9
        exact h9
end Go.Proofs.Ytecognggnbopaac

/- The program's hasBut and drop. Made by gen_drop.py. -/
namespace Go.Proofs.Ytecognggnbopaac
open Go.RowKit
open Plain
set_option linter.unusedVariables false
set_option linter.unusedSimpArgs false

set_option maxHeartbeats 2000000 in
set_option maxRecDepth 100000 in
theorem hasBut_any (v : Value) (mb : Nat) (valid : Int) (B : Nat) (P : List (Lb × Nat)) (o : Option Nat) (w : World) (hl : P.length ≤ 1048578) (hp : OwnPt B w v (P.map (·.2))) (ho : ObjsB B w P) (hq : ∀ q, o = some q → ∃ us, HasObj w q 53 us) :
    Calls Try.prog 37 #[.agg #[v, .map (some mb), .int .i64 valid], ptrOf o] w fun e w' => e = .returned (.bool ((P.map (·.2)).any (fun g => decide (o ≠ some g)))) ∧ Below w.heap.size w w' := by
  obtain ⟨a0, c0, rfl⟩ := g_shape hp
  obtain ⟨n, hn⟩ : ∃ n, n = (P.map (·.2)).length := ⟨_, rfl⟩
  rw [← hn] at hp ⊢
  have hl3 : (P.map (·.2)).length ≤ 4000000 := by rw [List.length_map]; omega
  obtain ⟨X1, hX1⟩ : ∃ X, X = w.alloc (.cells ([.slice a0 n c0, .map (some mb), .int .i64 valid] : List Value).toArray 61) := ⟨_, rfl⟩
  have a1 : HasObj X1 w.heap.size 61 [.slice a0 n c0, .map (some mb), .int .i64 valid] := by rw [hX1]; exact HasObj.new _ _ _
  have b1 : Below w.heap.size w X1 := by rw [hX1]; exact (Below.refl _ _).alloc (Nat.le_refl _) _
  obtain ⟨X2, hX2⟩ : ∃ X, X = X1.alloc (.cells ([ptrOf o] : List Value).toArray 63) := ⟨_, rfl⟩
  have a2 : HasObj X2 X1.heap.size 63 [ptrOf o] := by rw [hX2]; exact HasObj.new _ _ _
  have b2 : Below X1.heap.size X1 X2 := by rw [hX2]; exact (Below.refl _ _).alloc (Nat.le_refl _) _
  have a1' := a1.ups b2
  have c10 := a1'.cell 0 rfl
  have BB := hide (below_y b1 b2)
  have CL := hide (containsBut (P.map (·.2)) _ B X1.heap.size (fun g => decide (o ≠ some g)) X2 hl3 ((hp.up b1).up b2) (fun g W hg hb => by
    obtain ⟨p, hpm, rfl⟩ := List.mem_map.1 hg
    exact but1_any p.2 o X1.heap.size W (a2.ups hb) ((((ho p hpm).2.1.ups b1).ups b2).ups hb) (fun q e => by
      obtain ⟨us, hu⟩ := hq q e
      exact ⟨us, ((hu.ups b1).ups b2).ups hb⟩)))
  have E1 := hX1.symm
  have E2 := hX2.symm
  have ez : X1.heap.size = w.heap.size + 1 := by rw [hX1]; simp
  clear hX1 hX2 a1 a2 b1 b2 a1' hp ho hq hn hl3
  rw [ez] at CL
  obtain ⟨R, hR⟩ : ∃ R, R = (P.map (·.2)).any (fun g => decide (o ≠ some g)) := ⟨_, rfl⟩
  rw [← hR] at CL ⊢
  clear hR
  cases o with
  | none =>
    simp only [ptrOf] at E2 ⊢
    go_enter Try.func37, Try.ntmps37
    go_wp2_with fail
    clear E1 E2 c10
    refine (unhide CL).mono ?_
    rintro e w1 ⟨rfl, hb1⟩
    have B2 := hide (below_y (unhide BB) hb1)
    clear CL hb1
    go_wp2
    go_ret
    exact ⟨rfl, unhide B2⟩
  | some q =>
    simp only [ptrOf] at E2 ⊢
    go_enter Try.func37, Try.ntmps37
    go_wp2_with fail
    clear E1 E2 c10
    refine (unhide CL).mono ?_
    rintro e w1 ⟨rfl, hb1⟩
    have B2 := hide (below_y (unhide BB) hb1)
    clear CL hb1
    go_wp2
    go_ret
    exact ⟨rfl, unhide B2⟩
set_option maxHeartbeats 1500000 in
set_option maxRecDepth 100000 in
theorem drop_any (q g B : Nat) (v : Value) (mb : Nat) (valid : Int) (P : List (Lb × Nat)) (x : Lb) (w : World) (hl : P.length ≤ 1048578) (hn : x.b.name.size ≤ 1048576) (hx : (x, g) ∈ P) (hq : HasObj w q 61 [v, .map (some mb), .int .i64 valid]) (h : OpenSt B w v mb P) :
    Calls Try.prog 38 #[.pointer (some ⟨q, 0, none⟩), .pointer (some ⟨g, 0, none⟩)] w fun e w' => e = .returned (.tuple #[]) ∧ ∃ v', HasObj w' q 61 [v', .map (some mb), .int .i64 valid] ∧ OwnPt B w' v' ((P.map (·.2)).filter (fun k => !decide (k = g))) ∧ ObjsB B w' P ∧ GrownBut w w' (fun k => k = q ∨ v.ownBlock = some k ∨ k = mb) := by
  obtain ⟨hp, ho, hap, S, hm, _, _⟩ := h
  obtain ⟨a0, c0, rfl⟩ := g_shape hp
  obtain ⟨n, hn0⟩ : ∃ n, n = (P.map (·.2)).length := ⟨_, rfl⟩
  rw [← hn0] at hp hq ⊢
  have hl3 : (P.map (·.2)).length ≤ 4000000 := by rw [List.length_map]; omega
  obtain ⟨X, hX⟩ : ∃ X, X = w.alloc (.cells ([.pointer (some ⟨g, 0, none⟩)] : List Value).toArray 63) := ⟨_, rfl⟩
  have x0 : HasObj X w.heap.size 63 [.pointer (some ⟨g, 0, none⟩)] := by rw [hX]; exact HasObj.new _ _ _
  have hbX : Below w.heap.size w X := by rw [hX]; exact (Below.refl _ _).alloc (Nat.le_refl _) _
  have nq : w.heap.size ≠ q := Nat.ne_of_gt hq.lt
  have q0 := hq.ups hbX
  have k0 := q0.cell 0 rfl
  have hp0 := hp.up hbX
  have ho0 := ho.up hbX
  have hm0 := hm.up hbX
  have x0r : ∀ i, (Value.slice a0 n c0).ownBlock = some i → i ≠ w.heap.size := fun i hn e => by have := (World.ownsRow.lt hp i hn).2; omega
  have D := hide (deleteGone (P.map (·.2)) _ B w.heap.size (fun k => decide (k = g)) X hl3 hp0 (fun k W hk hg => by
    obtain ⟨p, hpm, rfl⟩ := List.mem_map.1 hk
    have ho1 := ho0.aside hp0 hg (by decide) (by decide) (by decide)
    exact drop1_any p.2 g w.heap.size W (x0.kept hg (fun e => x0r _ e.symm rfl)) (ho1 p hpm).2.1 (ho1 _ hx).2.1))
  have HX := hX.symm
  have X0 := hide x0
  have XR := hide x0r
  have Q0 := hide q0
  have BX := hide hbX
  have OX := hide hp0
  have OO := hide ho0
  have MM := hide hm0
  have HXP := hide hx
  clear hX x0 hbX q0 hq hp ho hap hm hp0 ho0 hm0 x0r hx hn0 hl3
  obtain ⟨l2, hl2⟩ : ∃ z, z = (P.map (·.2)).filter (fun k => !decide (k = g)) := ⟨_, rfl⟩
  rw [← hl2] at D ⊢
  have HL2 := hide hl2
  clear hl2
  go_enter Try.func38, Try.ntmps38
  go_wp2_with fail
  clear HX k0
  refine (unhide D).mono ?_
  rintro e w1 ⟨v', rfl, ov, hg1⟩
  have q1 := (unhide Q0).kept hg1 (fun e => (unhide Q0).not_row (by decide) (unhide OX) e.symm)
  have x1 := (unhide X0).kept hg1 (fun e => unhide XR _ e.symm rfl)
  have o1 := (unhide OO).aside (unhide OX) hg1 (by decide) (by decide) (by decide)
  have m1 := (unhide MM).kept hg1 (fun e => (unhide MM).no_row (unhide OX) e.symm)
  have g1 : GrownBut w w1 (fun k => k = q ∨ (Value.slice a0 n c0).ownBlock = some k ∨ k = mb) := ((GrownBut.below (unhide BX) rfl).then (GrownBut.of hg1)).mono (fun k hk hx => by rcases hx with hx | hx; exact absurd hx id; exact .inr (.inl hx))
  obtain ⟨a1, c1, rfl⟩ := g_shape ov
  have f0 := q1.frozen 0
  have k0 := q1.cell 0 rfl
  obtain ⟨Y, hY⟩ : ∃ Y, Y = w1.setCell ⟨q, 0, none⟩ (.slice a1 l2.length c1) := ⟨_, rfl⟩
  have q2 := q1.set 0 (.slice a1 l2.length c1)
  have x2 := x1.other (j := 0) nq (.slice a1 l2.length c1)
  have r2 : OwnPt B (w1.setCell ⟨q, 0, none⟩ (.slice a1 l2.length c1)) (.slice a1 l2.length c1) l2 := q1.row (j := 0) (by decide) ov (.slice a1 l2.length c1)
  have o2 := o1.set (j := 0) q1 (by decide) (by decide) (by decide) (.slice a1 l2.length c1)
  have m2 := m1.set (j := 0) q1 (.slice a1 l2.length c1)
  have g2 := g1.then (GrownBut.of (g_store (j := 0) (g_self w1 (some q)) (.slice a1 l2.length c1)))
  rw [← hY] at q2 x2 r2 o2 m2 g2
  have HY := hY.symm
  have Q2 := hide q2
  have R2 := hide r2
  have O2 := hide o2
  have M2 := hide m2
  have X2 := hide x2
  have G2 := hide g2
  clear D q1 x1 ov o1 m1 hg1 g1 hY q2 x2 r2 o2 m2 g2 OX OO MM X0 Q0 BX XR
  have GO := (unhide O2) _ (unhide HXP)
  have kx := (unhide X2).cell 0 rfl
  have k1 := (unhide Q2).cell 1 rfl
  have kn := GO.2.1.cell 0 rfl
  simp only at kn
  clear GO
  go_wp2
  have HYD : Hid (Named B Y.drew mb S) := (unhide M2).drew
  obtain ⟨Z, DL, GZ⟩ := (unhide HYD).del hn 0
  have Q3 := hide (((unhide Q2).drewn).kept GZ (fun e => (unhide HYD).no_obj (unhide Q2).drewn (by injection e)))
  have X3 := hide (((unhide X2).drewn).kept GZ (fun e => (unhide HYD).no_obj (unhide X2).drewn (by injection e)))
  have O3 := hide ((unhide O2).drew.mapped (unhide HYD) GZ)
  have R3 : Hid (OwnPt B Z (.slice a1 l2.length c1) l2) := g_aside (unhide R2).drew GZ (fun i hi e => (unhide HYD).no_row (unhide R2).drew (by rw [hi, ← e]))
  have G3 : Hid (GrownBut w Z (fun k => k = q ∨ (Value.slice a0 n c0).ownBlock = some k ∨ k = mb)) := ((unhide G2).drew.then (GrownBut.of GZ)).mono (fun k hk hx => by
    rcases hx with (hx | hx) | hx
    · exact hx
    · exact .inl (Option.some.inj hx).symm
    · exact .inr (.inr (Option.some.inj hx).symm))
  clear GZ Q2 R2 O2 M2 X2 G2 HYD HY f0 k0
  refine wp_region_held_drew (S := fun w' => w'.cell? ⟨w.heap.size, 0, none⟩ = some (.pointer (some ⟨g, 0, none⟩)) ∧ w'.cell? ⟨q, 1, none⟩ = some (.map (some mb)) ∧ w'.cell? ⟨g, 0, none⟩ = some (.string x.b.name)) (by kernel_rfl) ⟨kx, k1, kn⟩ (fun hHeld => ?_)
  clear kx k1 kn
  refine takeVal 0 (some 13) ?_ rfl (by kernel_rfl) (by kernel_rfl) (by kernel_rfl) rfl (fun _ _ _ h => h) (by rfl) (by assumption) ?_ ?_
  rotate_left
  · (intro w hSw; (try dsimp only at hSw); go_simp <;> with_reducible rfl)
  simp only [Act.put, List.setIfInBounds_toArray, List.set_cons_zero, List.set_cons_succ]
  refine takeVal 1 (some 14) ?_ rfl (by kernel_rfl) (by kernel_rfl) (by kernel_rfl) rfl (fun _ _ _ h => h) (by rfl) (by assumption) ?_ ?_
  rotate_left
  · (intro w hSw; (try dsimp only at hSw); go_simp <;> with_reducible rfl)
  simp only [Act.put, List.setIfInBounds_toArray, List.set_cons_zero, List.set_cons_succ]
  refine takeVal 2 (some 15) ?_ rfl (by kernel_rfl) (by kernel_rfl) (by kernel_rfl) rfl (fun _ _ _ h => h) (by rfl) (by assumption) ?_ ?_
  rotate_left
  · (intro w hSw; (try dsimp only at hSw); go_simp <;> with_reducible rfl)
  simp only [Act.put, List.setIfInBounds_toArray, List.set_cons_zero, List.set_cons_succ]
  refine takeVal 3 (some 16) ?_ rfl (by kernel_rfl) (by kernel_rfl) (by kernel_rfl) rfl (fun _ _ _ h => h) (by rfl) (by assumption) ?_ ?_
  rotate_left
  · (intro w hSw; (try dsimp only at hSw); go_simp <;> with_reducible rfl)
  simp only [Act.put, List.setIfInBounds_toArray, List.set_cons_zero, List.set_cons_succ]
  refine takeVal 4 (some 17) ?_ rfl (by kernel_rfl) (by kernel_rfl) (by kernel_rfl) rfl (fun _ _ _ h => h) (by rfl) (by assumption) ?_ ?_
  rotate_left
  · (intro w hSw; (try dsimp only at hSw); go_simp <;> with_reducible rfl)
  simp only [Act.put, List.setIfInBounds_toArray, List.set_cons_zero, List.set_cons_succ]
  refine takeVal 5 (some 18) ?_ rfl (by kernel_rfl) (by kernel_rfl) (by kernel_rfl) rfl (fun _ _ _ h => h) (by rfl) (by assumption) ?_ ?_
  rotate_left
  · (intro w hSw; (try dsimp only at hSw); go_simp <;> with_reducible rfl)
  simp only [Act.put, List.setIfInBounds_toArray, List.set_cons_zero, List.set_cons_succ]
  refine takeVal 6 (some 19) ?_ rfl (by kernel_rfl) (by kernel_rfl) (by kernel_rfl) rfl (fun _ _ _ h => h) (by rfl) (by assumption) ?_ ?_
  rotate_left
  · (intro w hSw; (try dsimp only at hSw); go_simp <;> with_reducible rfl)
  simp only [Act.put, List.setIfInBounds_toArray, List.set_cons_zero, List.set_cons_succ]
  refine takeVal 7 (some 20) ?_ rfl (by kernel_rfl) (by kernel_rfl) (by kernel_rfl) rfl (fun _ _ _ h => h) (by rfl) (by assumption) ?_ ?_
  rotate_left
  · (intro w hSw; (try dsimp only at hSw); go_simp <;> with_reducible rfl)
  simp only [Act.put, List.setIfInBounds_toArray, List.set_cons_zero, List.set_cons_succ]
  refine wpAnyH_ready (rs := [8]) (by kernel_rfl) (by simp) ?_
  refine AllReadyH.cons rfl (fun K hK => ?_) AllReadyH.nil
  go_simp
  refine hK.out _ _ ⟨(unhide X3).cell 0 rfl, (unhide Q3).cell 1 rfl, ((unhide O3) _ (unhide HXP)).2.1.cell 0 rfl⟩ (fun hHeld2 => ?_)
  clear hK K hHeld hHeld2
  refine wpAnyH_done (by kernel_rfl) ?_ _
  go_wp2
  go_end0
  exact ⟨rfl, _, unhide Q3, unhide R3, unhide O3, unhide G3⟩
end Go.Proofs.Ytecognggnbopaac

/- The program's DropBox. Made by gen_stores.py. -/
namespace Go.Proofs.Ytecognggnbopaac
open Go.RowKit
open Plain
set_option linter.unusedVariables false
set_option linter.unusedSimpArgs false

theorem names_ne {s : Sx} (hr : RightSt s) {i j : Nat} {a b : Bx} (hi : s.boxes[i]? = some a) (hj : s.boxes[j]? = some b) (hne : i ≠ j) : a.name ≠ b.name := by
  obtain ⟨h1, rfl⟩ := List.getElem?_eq_some_iff.1 hi
  obtain ⟨h2, rfl⟩ := List.getElem?_eq_some_iff.1 hj
  rcases Nat.lt_or_gt_of_ne hne with h | h
  · exact ltB_ne (List.pairwise_iff_getElem.1 hr.asc i j h1 h2 h)
  · exact fun e => ltB_ne (List.pairwise_iff_getElem.1 hr.asc j i h2 h1 h) e.symm
theorem gone_iff {P : List (Lb × Nat)} {s : Sx} {name : ByteArray} {g k : Nat} {x : Lb} (hP : P.map (·.1.b) = s.boxes) (hr : RightSt s) (hap : P.Pairwise AsideB) (hk : P[k]? = some (x, g)) (hx : x.b.name = name) : ∀ p ∈ P, decide (p.2 = g) = sameN name p.1.b := by
  intro p hp
  obtain ⟨i, hi⟩ := List.mem_iff_getElem?.1 hp
  by_cases h : i = k
  · subst h
    rw [hk] at hi
    cases hi
    rw [sameN_iff.2 hx]
    simp
  · rw [decide_eq_false (aside_at hap hi hk h).1]
    cases hs : sameN name p.1.b with
    | false => rfl
    | true =>
      refine absurd ((sameN_iff.1 hs).trans hx.symm) (names_ne hr (i := i) (j := k) ?_ ?_ h)
      · rw [← hP, List.getElem?_map, hi]; rfl
      · rw [← hP, List.getElem?_map, hk]; rfl
theorem left_boxes {P : List (Lb × Nat)} {s : Sx} {name : ByteArray} {g : Nat} (hP : P.map (·.1.b) = s.boxes) (hg : ∀ p ∈ P, decide (p.2 = g) = sameN name p.1.b) : (P.filter (fun p => !decide (p.2 = g))).map (·.1.b) = dropL s.boxes name := by
  unfold dropL
  rw [← hP, List.filter_map]
  congr 1
  exact List.filter_congr fun p hp => by rw [hg p hp]; rfl
theorem left_blocks (P : List (Lb × Nat)) (g : Nat) : (P.filter (fun p => !decide (p.2 = g))).map (·.2) = (P.map (·.2)).filter (fun k => !decide (k = g)) := by
  rw [List.filter_map]
  rfl
theorem but_yes {P : List (Lb × Nat)} {l : List Bx} {g : Nat} (hP : (P.filter (fun p => !decide (p.2 = g))).map (·.1.b) = l) (hl : l ≠ []) : (P.map (·.2)).any (fun k => decide (some g ≠ some k)) = true := by
  cases hq : P.filter (fun p => !decide (p.2 = g)) with
  | nil => rw [hq] at hP; exact absurd hP.symm hl
  | cons p t =>
    have hm : p ∈ P.filter (fun p => !decide (p.2 = g)) := by rw [hq]; exact List.mem_cons_self
    obtain ⟨h1, h2⟩ := List.mem_filter.1 hm
    refine List.any_eq_true.2 ⟨p.2, List.mem_map.2 ⟨p, h1, rfl⟩, ?_⟩
    simp at h2
    simp
    exact fun e => h2 e.symm
theorem but_no {P : List (Lb × Nat)} {l : List Bx} {g : Nat} (hP : (P.filter (fun p => !decide (p.2 = g))).map (·.1.b) = l) (hl : l = []) : (P.map (·.2)).any (fun k => decide (some g ≠ some k)) = false := by
  rw [List.any_eq_false]
  intro k hk
  obtain ⟨p, hp, rfl⟩ := List.mem_map.1 hk
  intro h
  have hm : p ∈ P.filter (fun p => !decide (p.2 = g)) := List.mem_filter.2 ⟨hp, by simp at h; simp; exact fun e => h e.symm⟩
  have hb : p.1.b ∈ l := by rw [← hP]; exact List.mem_map.2 ⟨p, hm, rfl⟩
  rw [hl] at hb
  cases hb
theorem but_all {P : List (Lb × Nat)} (h : 1 ≤ P.length) : (P.map (·.2)).any (fun k => decide (none ≠ some k)) = true := by
  cases P with
  | nil => simp at h
  | cons p t => simp
theorem OpenSt.not_gone {B q c : Nat} {W : World} {v : Value} {mb : Nat} {P : List (Lb × Nat)} {t u : TypeId} {vs us : List Value} (h : OpenSt B W v mb P) (ho : HasObj W c t vs) (hq : HasObj W q u us) (h1 : t ≠ u) (h2 : t ≠ 63) : ¬ (c = q ∨ v.ownBlock = some c ∨ c = mb) := by
  obtain ⟨S, hm, _, _⟩ := h.map
  rintro (e | e | e)
  · exact obj_ne ho hq h1 e
  · exact ho.not_row h2 h.row e
  · exact hm.no_obj ho e
theorem OpenSt.low {B q : Nat} {W : World} {v : Value} {mb : Nat} {P : List (Lb × Nat)} (h : OpenSt B W v mb P) (hq : B ≤ q) : ∀ k, (k = q ∨ v.ownBlock = some k ∨ k = mb) → B ≤ k := by
  obtain ⟨S, hm, _, _⟩ := h.map
  rintro k (e | e | e)
  · omega
  · exact (World.ownsRow.lt h.row k e).1
  · rw [e]; exact hm.2.1
set_option maxHeartbeats 8000000 in
set_option maxRecDepth 100000 in
theorem impl_DropBox_any (s : Sx) (name : ByteArray) (v : Value) (B : Nat) (w : World) (hf : FitSt s) (hz : name.size ≤ 1048576) (h : ReadSt B w v s.boxes) :
    Calls Try.prog 14 #[.agg #[v, .int .i64 s.valid], .string name] w fun e w' => ∃ v', e = .returned (.tuple #[.agg #[v', .int .i64 (dropV s name).1.valid], .int .i64 (dropV s name).2]) ∧ OwnSt w.heap.size w' v' (dropV s name).1.boxes ∧ Below w.heap.size w w' := by
  have FT := hide hf
  obtain ⟨L, hL, h⟩ := h
  obtain ⟨a1, c1, rfl⟩ := g_shape h.row
  obtain ⟨n, hn⟩ : ∃ n, n = s.boxes.length := ⟨_, rfl⟩
  have hn1 : L.length = n := by rw [hn, ← hL, List.length_map]
  have hnl := hf.len
  rw [← hn] at hnl
  have S1 := hide h
  rw [hn1] at S1 ⊢
  have FE := hide hf.each
  have HL := hide hL
  have HN := hide hn
  have HN1 := hide hn1
  clear h hL hn hn1 hf
  have BB := hide (Below.refl w.heap.size w)
  obtain ⟨wc1, hA⟩ : ∃ X, X = w.alloc (.cells ([.slice a1 n c1, .int .i64 s.valid] : List Value).toArray 28) := ⟨_, rfl⟩
  have Ax : HasObj wc1 w.heap.size 28 [.slice a1 n c1, .int .i64 s.valid] := by rw [hA]; exact HasObj.new _ _ _
  have hbn : Below w.heap.size w wc1 := by rw [hA]; exact (Below.refl _ _).alloc (Nat.le_refl _) _
  have loA : w.heap.size ≤ w.heap.size := (unhide BB).size
  have EA := hA.symm
  clear hA
  have S1_ := hide ((unhide S1).up hbn)
  clear S1
  have S1 := S1_
  clear S1_
  have sz1 := hide (hbn.size)
  have BB_ := hide (below_y (unhide BB) hbn)
  clear BB
  have BB := BB_
  clear BB_
  clear hbn
  have A := hide Ax
  clear Ax
  obtain ⟨wc2, hR⟩ : ∃ X, X = wc1.alloc (.cells ([.slice none 0 0, .int .i64 0] : List Value).toArray 28) := ⟨_, rfl⟩
  have Rx : HasObj wc2 wc1.heap.size 28 [.slice none 0 0, .int .i64 0] := by rw [hR]; exact HasObj.new _ _ _
  have hbn : Below wc1.heap.size wc1 wc2 := by rw [hR]; exact (Below.refl _ _).alloc (Nat.le_refl _) _
  have neAR : w.heap.size ≠ wc1.heap.size := Nat.ne_of_lt (unhide A).lt
  have loR : w.heap.size ≤ wc1.heap.size := (unhide BB).size
  have ER := hR.symm
  clear hR
  have A_ := hide ((unhide A).ups hbn)
  clear A
  have A := A_
  clear A_
  have S1_ := hide ((unhide S1).up hbn)
  clear S1
  have S1 := S1_
  clear S1_
  have sz2 := hide (hbn.size)
  have BB_ := hide (below_y (unhide BB) hbn)
  clear BB
  have BB := BB_
  clear BB_
  clear hbn
  have R := hide Rx
  clear Rx
  have Ac0_1 := (unhide A).cell 0 rfl
  have Ac1_1 := (unhide A).cell 1 rfl
  go_enter Try.func14, Try.ntmps14
  go_wp2_with fail
  clear Ac0_1 Ac1_1 EA ER
  have LOP : Hid (w.heap.size ≤ wc2.heap.size) := (unhide BB).size
  refine (openedStore_any s _ _ _ (unhide FT) ⟨L, unhide HL, unhide S1⟩).mono ?_
  rintro e wc3 ⟨vP, mbP, P, hPP, rfl, oS, hb⟩
  obtain ⟨aP, cP, rfl⟩ := g_shape oS.row
  rw [List.length_map] at oS ⊢
  have OSP_ := hide (oS.based (unhide LOP))
  have HPP := hide hPP
  clear oS hPP
  have A_ := hide ((unhide A).ups hb)
  clear A
  have A := A_
  clear A_
  have R_ := hide ((unhide R).ups hb)
  clear R
  have R := R_
  clear R_
  have S1_ := hide ((unhide S1).up hb)
  clear S1
  have S1 := S1_
  clear S1_
  have sz3 := hide (hb.size)
  have BB_ := hide (below_y (unhide BB) hb)
  clear BB
  have BB := BB_
  clear BB_
  clear hb
  have OSP := OSP_
  clear OSP_
  replace LOP : Hid (w.heap.size ≤ wc3.heap.size) := (unhide BB).size
  obtain ⟨wc4, hO⟩ : ∃ X, X = wc3.alloc (.cells ([.slice aP P.length cP, .map (some mbP), .int .i64 s.valid] : List Value).toArray 61) := ⟨_, rfl⟩
  have Ox : HasObj wc4 wc3.heap.size 61 [.slice aP P.length cP, .map (some mbP), .int .i64 s.valid] := by rw [hO]; exact HasObj.new _ _ _
  have hbn : Below wc3.heap.size wc3 wc4 := by rw [hO]; exact (Below.refl _ _).alloc (Nat.le_refl _) _
  have neAO : w.heap.size ≠ wc3.heap.size := Nat.ne_of_lt (unhide A).lt
  have neRO : wc1.heap.size ≠ wc3.heap.size := Nat.ne_of_lt (unhide R).lt
  have loO : w.heap.size ≤ wc3.heap.size := (unhide BB).size
  have EO := hO.symm
  clear hO
  have A_ := hide ((unhide A).ups hbn)
  clear A
  have A := A_
  clear A_
  have R_ := hide ((unhide R).ups hbn)
  clear R
  have R := R_
  clear R_
  have S1_ := hide ((unhide S1).up hbn)
  clear S1
  have S1 := S1_
  clear S1_
  have OSP_ := hide ((unhide OSP).up hbn)
  clear OSP
  have OSP := OSP_
  clear OSP_
  have sz4 := hide (hbn.size)
  have BB_ := hide (below_y (unhide BB) hbn)
  clear BB
  have BB := BB_
  clear BB_
  clear hbn
  have O := hide Ox
  clear Ox
  have PL : Hid (P.length = s.boxes.length) := by have h9 := congrArg List.length (unhide HPP); rw [List.length_map] at h9; exact h9
  have LK := (unhide OSP).look hz
  cases hfb : findB P name with
  | none =>
    rw [hfb] at LK
    simp only [ptrOf] at LK
    have B1 := hide (found_no (unhide HPP) hfb)
    clear hfb
    have Oc0_2 := (unhide O).cell 0 rfl
    have Oc1_2 := (unhide O).cell 1 rfl
    have Oc2_2 := (unhide O).cell 2 rfl
    have Ac0_3 := (unhide A).cell 0 rfl
    have Ac1_3 := (unhide A).cell 1 rfl
    go_wp2_with fail
    clear Oc0_2 Oc1_2 Oc2_2 Ac0_3 Ac1_3 EO
    refine (impl_StoreOk_any s _ _ _ (unhide FT) ⟨L, unhide HL, unhide S1⟩).mono ?_
    rintro e wcn5 ⟨rfl, hb⟩
    have A_ := hide ((unhide A).ups hb)
    clear A
    have A := A_
    clear A_
    have R_ := hide ((unhide R).ups hb)
    clear R
    have R := R_
    clear R_
    have O_ := hide ((unhide O).ups hb)
    clear O
    have O := O_
    clear O_
    have S1_ := hide ((unhide S1).up hb)
    clear S1
    have S1 := S1_
    clear S1_
    have OSP_ := hide ((unhide OSP).up hb)
    clear OSP
    have OSP := OSP_
    clear OSP_
    have sz5 := hide (hb.size)
    have BB_ := hide (below_y (unhide BB) hb)
    clear BB
    have BB := BB_
    clear BB_
    clear hb
    clear LK
    cases h1 : storeOk s with
    | false =>
      have ANS : Hid (dropV s name = (s, 4)) := dropV_bad1 h1
      have Ac0_4 := (unhide A).cell 0 rfl
      have Ac1_4 := (unhide A).cell 1 rfl
      go_wp2_with fail
      clear Ac0_4 Ac1_4
      have LO9 : w.heap.size ≤ wcn5.heap.size := (unhide BB).size
      refine (copiedStore_any s _ _ _ (unhide FT) ⟨L, unhide HL, unhide S1⟩).mono ?_
      rintro e wna6 ⟨v9, rfl, o9, hb⟩
      obtain ⟨a9, c9, rfl⟩ := o9.shape
      have OW_ := hide (o9.based LO9)
      clear o9
      have A_ := hide ((unhide A).ups hb)
      clear A
      have A := A_
      clear A_
      have R_ := hide ((unhide R).ups hb)
      clear R
      have R := R_
      clear R_
      have O_ := hide ((unhide O).ups hb)
      clear O
      have O := O_
      clear O_
      have S1_ := hide ((unhide S1).up hb)
      clear S1
      have S1 := S1_
      clear S1_
      have OSP_ := hide ((unhide OSP).up hb)
      clear OSP
      have OSP := OSP_
      clear OSP_
      have sz6 := hide (hb.size)
      have BB_ := hide (below_y (unhide BB) hb)
      clear BB
      have BB := BB_
      clear BB_
      clear hb
      have OW := OW_
      clear OW_
      have Rf0 := (unhide R).frozen 0
      have Rf1 := (unhide R).frozen 1
      have Re0 := (unhide R).cell 0 rfl
      have Re1 := (unhide R).cell 1 rfl
      have F := hide (fill2 (unhide R) (.slice a9 s.boxes.length c9) (.int .i64 s.valid))
      obtain ⟨U, hU⟩ : ∃ U, U = ((wna6.setCell ⟨wc1.heap.size, 0, none⟩ (.slice a9 s.boxes.length c9)).setCell ⟨wc1.heap.size, 1, none⟩ (.int .i64 s.valid)) := ⟨_, rfl⟩
      have F9 := unhide F
      rw [← hU] at F9
      have EU := hU.symm
      clear F hU
      have v0 := F9.obj.cell 0 rfl
      have v1 := F9.obj.cell 1 rfl
      have F := hide F9
      clear F9
      go_wp2_with (refine bodyPost_ret (by simp [results, Try.results14, go_sem, v0, v1]; try rfl) rfl ?_)
      clear EU
      have F := unhide F
      rw [unhide ANS]
      exact ⟨_, rfl, (unhide OW).filled F (by decide) (by decide) (by decide), F.below loR (unhide BB)⟩
    | true =>
      cases h2 : (name.toList == [105, 110, 98, 111, 120]) with
      | true =>
        have ANS : Hid (dropV s name = (s, 4)) := dropV_bad2 (is_inbox h2)
        have Ac0_4 := (unhide A).cell 0 rfl
        have Ac1_4 := (unhide A).cell 1 rfl
        go_wp2_with fail
        clear Ac0_4 Ac1_4
        have LO9 : w.heap.size ≤ wcn5.heap.size := (unhide BB).size
        refine (copiedStore_any s _ _ _ (unhide FT) ⟨L, unhide HL, unhide S1⟩).mono ?_
        rintro e wnb6 ⟨v9, rfl, o9, hb⟩
        obtain ⟨a9, c9, rfl⟩ := o9.shape
        have OW_ := hide (o9.based LO9)
        clear o9
        have A_ := hide ((unhide A).ups hb)
        clear A
        have A := A_
        clear A_
        have R_ := hide ((unhide R).ups hb)
        clear R
        have R := R_
        clear R_
        have O_ := hide ((unhide O).ups hb)
        clear O
        have O := O_
        clear O_
        have S1_ := hide ((unhide S1).up hb)
        clear S1
        have S1 := S1_
        clear S1_
        have OSP_ := hide ((unhide OSP).up hb)
        clear OSP
        have OSP := OSP_
        clear OSP_
        have sz6 := hide (hb.size)
        have BB_ := hide (below_y (unhide BB) hb)
        clear BB
        have BB := BB_
        clear BB_
        clear hb
        have OW := OW_
        clear OW_
        have Rf0 := (unhide R).frozen 0
        have Rf1 := (unhide R).frozen 1
        have Re0 := (unhide R).cell 0 rfl
        have Re1 := (unhide R).cell 1 rfl
        have F := hide (fill2 (unhide R) (.slice a9 s.boxes.length c9) (.int .i64 s.valid))
        obtain ⟨U, hU⟩ : ∃ U, U = ((wnb6.setCell ⟨wc1.heap.size, 0, none⟩ (.slice a9 s.boxes.length c9)).setCell ⟨wc1.heap.size, 1, none⟩ (.int .i64 s.valid)) := ⟨_, rfl⟩
        have F9 := unhide F
        rw [← hU] at F9
        have EU := hU.symm
        clear F hU
        have v0 := F9.obj.cell 0 rfl
        have v1 := F9.obj.cell 1 rfl
        have F := hide F9
        clear F9
        go_wp2_with (refine bodyPost_ret (by simp [results, Try.results14, go_sem, v0, v1]; try rfl) rfl ?_)
        clear EU
        have F := unhide F
        rw [unhide ANS]
        exact ⟨_, rfl, (unhide OW).filled F (by decide) (by decide) (by decide), F.below loR (unhide BB)⟩
      | false =>
        have H1 := hide h1
        have H2 := hide (not_inbox h2)
        have RT := hide (right_st h1)
        have Oc0_4 := (unhide O).cell 0 rfl
        have Oc1_4 := (unhide O).cell 1 rfl
        have Oc2_4 := (unhide O).cell 2 rfl
        go_wp2_with fail
        clear Oc0_4 Oc1_4 Oc2_4
        refine (hasBut_any _ mbP s.valid _ P (none) _ (open_len (unhide HPP) (unhide FT)) (unhide OSP).row (unhide OSP).objs (fun q e => by cases e)).mono ?_
        rintro e wcn6 ⟨rfl, hb⟩
        have A_ := hide ((unhide A).ups hb)
        clear A
        have A := A_
        clear A_
        have R_ := hide ((unhide R).ups hb)
        clear R
        have R := R_
        clear R_
        have O_ := hide ((unhide O).ups hb)
        clear O
        have O := O_
        clear O_
        have S1_ := hide ((unhide S1).up hb)
        clear S1
        have S1 := S1_
        clear S1_
        have OSP_ := hide ((unhide OSP).up hb)
        clear OSP
        have OSP := OSP_
        clear OSP_
        have sz6 := hide (hb.size)
        have BB_ := hide (below_y (unhide BB) hb)
        clear BB
        have BB := BB_
        clear BB_
        clear hb
        clear h1 h2
        rw [but_all (by have q1_ := (unhide RT).one; have q2_ := unhide PL; omega)]
        have ANS : Hid (dropV s name = (s, 1)) := dropV_none (unhide H1) (unhide H2) (unhide B1)
        have Ac0_5 := (unhide A).cell 0 rfl
        have Ac1_5 := (unhide A).cell 1 rfl
        go_wp2_with fail
        clear Ac0_5 Ac1_5
        have LO9 : w.heap.size ≤ wcn6.heap.size := (unhide BB).size
        refine (copiedStore_any s _ _ _ (unhide FT) ⟨L, unhide HL, unhide S1⟩).mono ?_
        rintro e wcn7 ⟨v9, rfl, o9, hb⟩
        obtain ⟨a9, c9, rfl⟩ := o9.shape
        have OW_ := hide (o9.based LO9)
        clear o9
        have A_ := hide ((unhide A).ups hb)
        clear A
        have A := A_
        clear A_
        have R_ := hide ((unhide R).ups hb)
        clear R
        have R := R_
        clear R_
        have O_ := hide ((unhide O).ups hb)
        clear O
        have O := O_
        clear O_
        have S1_ := hide ((unhide S1).up hb)
        clear S1
        have S1 := S1_
        clear S1_
        have OSP_ := hide ((unhide OSP).up hb)
        clear OSP
        have OSP := OSP_
        clear OSP_
        have sz7 := hide (hb.size)
        have BB_ := hide (below_y (unhide BB) hb)
        clear BB
        have BB := BB_
        clear BB_
        clear hb
        have OW := OW_
        clear OW_
        have Rf0 := (unhide R).frozen 0
        have Rf1 := (unhide R).frozen 1
        have Re0 := (unhide R).cell 0 rfl
        have Re1 := (unhide R).cell 1 rfl
        have F := hide (fill2 (unhide R) (.slice a9 s.boxes.length c9) (.int .i64 s.valid))
        obtain ⟨U, hU⟩ : ∃ U, U = ((wcn7.setCell ⟨wc1.heap.size, 0, none⟩ (.slice a9 s.boxes.length c9)).setCell ⟨wc1.heap.size, 1, none⟩ (.int .i64 s.valid)) := ⟨_, rfl⟩
        have F9 := unhide F
        rw [← hU] at F9
        have EU := hU.symm
        clear F hU
        have v0 := F9.obj.cell 0 rfl
        have v1 := F9.obj.cell 1 rfl
        have F := hide F9
        clear F9
        go_wp2_with (refine bodyPost_ret (by simp [results, Try.results14, go_sem, v0, v1]; try rfl) rfl ?_)
        clear EU
        have F := unhide F
        rw [unhide ANS]
        exact ⟨_, rfl, (unhide OW).filled F (by decide) (by decide) (by decide), F.below loR (unhide BB)⟩
  | some g0 =>
    rw [hfb] at LK
    simp only [ptrOf] at LK
    obtain ⟨k, x, hk, hk2, hs2, hno, hat⟩ := found_at (unhide HPP) hfb
    have HK := hide hk
    have B1 := hide hat
    have NX : Hid (x.b.name = name) := sameN_iff.1 hs2
    clear hfb hk hk2 hs2 hno hat
    have Oc0_2 := (unhide O).cell 0 rfl
    have Oc1_2 := (unhide O).cell 1 rfl
    have Oc2_2 := (unhide O).cell 2 rfl
    have Ac0_3 := (unhide A).cell 0 rfl
    have Ac1_3 := (unhide A).cell 1 rfl
    go_wp2_with fail
    clear Oc0_2 Oc1_2 Oc2_2 Ac0_3 Ac1_3 EO
    refine (impl_StoreOk_any s _ _ _ (unhide FT) ⟨L, unhide HL, unhide S1⟩).mono ?_
    rintro e wcy5 ⟨rfl, hb⟩
    have A_ := hide ((unhide A).ups hb)
    clear A
    have A := A_
    clear A_
    have R_ := hide ((unhide R).ups hb)
    clear R
    have R := R_
    clear R_
    have O_ := hide ((unhide O).ups hb)
    clear O
    have O := O_
    clear O_
    have S1_ := hide ((unhide S1).up hb)
    clear S1
    have S1 := S1_
    clear S1_
    have OSP_ := hide ((unhide OSP).up hb)
    clear OSP
    have OSP := OSP_
    clear OSP_
    have sz5 := hide (hb.size)
    have BB_ := hide (below_y (unhide BB) hb)
    clear BB
    have BB := BB_
    clear BB_
    clear hb
    clear LK
    cases h1 : storeOk s with
    | false =>
      have ANS : Hid (dropV s name = (s, 4)) := dropV_bad1 h1
      have Ac0_4 := (unhide A).cell 0 rfl
      have Ac1_4 := (unhide A).cell 1 rfl
      go_wp2_with fail
      clear Ac0_4 Ac1_4
      have LO9 : w.heap.size ≤ wcy5.heap.size := (unhide BB).size
      refine (copiedStore_any s _ _ _ (unhide FT) ⟨L, unhide HL, unhide S1⟩).mono ?_
      rintro e wya6 ⟨v9, rfl, o9, hb⟩
      obtain ⟨a9, c9, rfl⟩ := o9.shape
      have OW_ := hide (o9.based LO9)
      clear o9
      have A_ := hide ((unhide A).ups hb)
      clear A
      have A := A_
      clear A_
      have R_ := hide ((unhide R).ups hb)
      clear R
      have R := R_
      clear R_
      have O_ := hide ((unhide O).ups hb)
      clear O
      have O := O_
      clear O_
      have S1_ := hide ((unhide S1).up hb)
      clear S1
      have S1 := S1_
      clear S1_
      have OSP_ := hide ((unhide OSP).up hb)
      clear OSP
      have OSP := OSP_
      clear OSP_
      have sz6 := hide (hb.size)
      have BB_ := hide (below_y (unhide BB) hb)
      clear BB
      have BB := BB_
      clear BB_
      clear hb
      have OW := OW_
      clear OW_
      have Rf0 := (unhide R).frozen 0
      have Rf1 := (unhide R).frozen 1
      have Re0 := (unhide R).cell 0 rfl
      have Re1 := (unhide R).cell 1 rfl
      have F := hide (fill2 (unhide R) (.slice a9 s.boxes.length c9) (.int .i64 s.valid))
      obtain ⟨U, hU⟩ : ∃ U, U = ((wya6.setCell ⟨wc1.heap.size, 0, none⟩ (.slice a9 s.boxes.length c9)).setCell ⟨wc1.heap.size, 1, none⟩ (.int .i64 s.valid)) := ⟨_, rfl⟩
      have F9 := unhide F
      rw [← hU] at F9
      have EU := hU.symm
      clear F hU
      have v0 := F9.obj.cell 0 rfl
      have v1 := F9.obj.cell 1 rfl
      have F := hide F9
      clear F9
      go_wp2_with (refine bodyPost_ret (by simp [results, Try.results14, go_sem, v0, v1]; try rfl) rfl ?_)
      clear EU
      have F := unhide F
      rw [unhide ANS]
      exact ⟨_, rfl, (unhide OW).filled F (by decide) (by decide) (by decide), F.below loR (unhide BB)⟩
    | true =>
      cases h2 : (name.toList == [105, 110, 98, 111, 120]) with
      | true =>
        have ANS : Hid (dropV s name = (s, 4)) := dropV_bad2 (is_inbox h2)
        have Ac0_4 := (unhide A).cell 0 rfl
        have Ac1_4 := (unhide A).cell 1 rfl
        go_wp2_with fail
        clear Ac0_4 Ac1_4
        have LO9 : w.heap.size ≤ wcy5.heap.size := (unhide BB).size
        refine (copiedStore_any s _ _ _ (unhide FT) ⟨L, unhide HL, unhide S1⟩).mono ?_
        rintro e wyb6 ⟨v9, rfl, o9, hb⟩
        obtain ⟨a9, c9, rfl⟩ := o9.shape
        have OW_ := hide (o9.based LO9)
        clear o9
        have A_ := hide ((unhide A).ups hb)
        clear A
        have A := A_
        clear A_
        have R_ := hide ((unhide R).ups hb)
        clear R
        have R := R_
        clear R_
        have O_ := hide ((unhide O).ups hb)
        clear O
        have O := O_
        clear O_
        have S1_ := hide ((unhide S1).up hb)
        clear S1
        have S1 := S1_
        clear S1_
        have OSP_ := hide ((unhide OSP).up hb)
        clear OSP
        have OSP := OSP_
        clear OSP_
        have sz6 := hide (hb.size)
        have BB_ := hide (below_y (unhide BB) hb)
        clear BB
        have BB := BB_
        clear BB_
        clear hb
        have OW := OW_
        clear OW_
        have Rf0 := (unhide R).frozen 0
        have Rf1 := (unhide R).frozen 1
        have Re0 := (unhide R).cell 0 rfl
        have Re1 := (unhide R).cell 1 rfl
        have F := hide (fill2 (unhide R) (.slice a9 s.boxes.length c9) (.int .i64 s.valid))
        obtain ⟨U, hU⟩ : ∃ U, U = ((wyb6.setCell ⟨wc1.heap.size, 0, none⟩ (.slice a9 s.boxes.length c9)).setCell ⟨wc1.heap.size, 1, none⟩ (.int .i64 s.valid)) := ⟨_, rfl⟩
        have F9 := unhide F
        rw [← hU] at F9
        have EU := hU.symm
        clear F hU
        have v0 := F9.obj.cell 0 rfl
        have v1 := F9.obj.cell 1 rfl
        have F := hide F9
        clear F9
        go_wp2_with (refine bodyPost_ret (by simp [results, Try.results14, go_sem, v0, v1]; try rfl) rfl ?_)
        clear EU
        have F := unhide F
        rw [unhide ANS]
        exact ⟨_, rfl, (unhide OW).filled F (by decide) (by decide) (by decide), F.below loR (unhide BB)⟩
      | false =>
        have H1 := hide h1
        have H2 := hide (not_inbox h2)
        have RT := hide (right_st h1)
        have Oc0_4 := (unhide O).cell 0 rfl
        have Oc1_4 := (unhide O).cell 1 rfl
        have Oc2_4 := (unhide O).cell 2 rfl
        go_wp2_with fail
        clear Oc0_4 Oc1_4 Oc2_4
        refine (hasBut_any _ mbP s.valid _ P (some g0) _ (open_len (unhide HPP) (unhide FT)) (unhide OSP).row (unhide OSP).objs (fun q e => by cases e; exact ⟨_, ((unhide OSP).objs _ (List.mem_of_getElem? (unhide HK))).2.1⟩)).mono ?_
        rintro e wcy6 ⟨rfl, hb⟩
        have A_ := hide ((unhide A).ups hb)
        clear A
        have A := A_
        clear A_
        have R_ := hide ((unhide R).ups hb)
        clear R
        have R := R_
        clear R_
        have O_ := hide ((unhide O).ups hb)
        clear O
        have O := O_
        clear O_
        have S1_ := hide ((unhide S1).up hb)
        clear S1
        have S1 := S1_
        clear S1_
        have OSP_ := hide ((unhide OSP).up hb)
        clear OSP
        have OSP := OSP_
        clear OSP_
        have sz6 := hide (hb.size)
        have BB_ := hide (below_y (unhide BB) hb)
        clear BB
        have BB := BB_
        clear BB_
        clear hb
        clear h1 h2
        have DP := hide (left_boxes (unhide HPP) (gone_iff (unhide HPP) (unhide RT) (unhide OSP).apart (unhide HK) (unhide NX)))
        by_cases hd : dropL s.boxes name = []
        · rw [but_no (unhide DP) hd]
          have ANS : Hid (dropV s name = (s, 4)) := dropV_last (unhide H1) (unhide H2) (unhide B1) hd
          have Ac0_5 := (unhide A).cell 0 rfl
          have Ac1_5 := (unhide A).cell 1 rfl
          go_wp2_with fail
          clear Ac0_5 Ac1_5
          have LO9 : w.heap.size ≤ wcy6.heap.size := (unhide BB).size
          refine (copiedStore_any s _ _ _ (unhide FT) ⟨L, unhide HL, unhide S1⟩).mono ?_
          rintro e wcz7 ⟨v9, rfl, o9, hb⟩
          obtain ⟨a9, c9, rfl⟩ := o9.shape
          have OW_ := hide (o9.based LO9)
          clear o9
          have A_ := hide ((unhide A).ups hb)
          clear A
          have A := A_
          clear A_
          have R_ := hide ((unhide R).ups hb)
          clear R
          have R := R_
          clear R_
          have O_ := hide ((unhide O).ups hb)
          clear O
          have O := O_
          clear O_
          have S1_ := hide ((unhide S1).up hb)
          clear S1
          have S1 := S1_
          clear S1_
          have OSP_ := hide ((unhide OSP).up hb)
          clear OSP
          have OSP := OSP_
          clear OSP_
          have sz7 := hide (hb.size)
          have BB_ := hide (below_y (unhide BB) hb)
          clear BB
          have BB := BB_
          clear BB_
          clear hb
          have OW := OW_
          clear OW_
          have Rf0 := (unhide R).frozen 0
          have Rf1 := (unhide R).frozen 1
          have Re0 := (unhide R).cell 0 rfl
          have Re1 := (unhide R).cell 1 rfl
          have F := hide (fill2 (unhide R) (.slice a9 s.boxes.length c9) (.int .i64 s.valid))
          obtain ⟨U, hU⟩ : ∃ U, U = ((wcz7.setCell ⟨wc1.heap.size, 0, none⟩ (.slice a9 s.boxes.length c9)).setCell ⟨wc1.heap.size, 1, none⟩ (.int .i64 s.valid)) := ⟨_, rfl⟩
          have F9 := unhide F
          rw [← hU] at F9
          have EU := hU.symm
          clear F hU
          have v0 := F9.obj.cell 0 rfl
          have v1 := F9.obj.cell 1 rfl
          have F := hide F9
          clear F9
          go_wp2_with (refine bodyPost_ret (by simp [results, Try.results14, go_sem, v0, v1]; try rfl) rfl ?_)
          clear EU
          have F := unhide F
          rw [unhide ANS]
          exact ⟨_, rfl, (unhide OW).filled F (by decide) (by decide) (by decide), F.below loR (unhide BB)⟩
        · rw [but_yes (unhide DP) hd]
          have ANS : Hid (dropV s name = (⟨dropL s.boxes name, s.valid⟩, 0)) := dropV_yes (unhide H1) (unhide H2) (unhide B1) hd
          clear hd
          have Oc0_5 := (unhide O).cell 0 rfl
          have Oc1_5 := (unhide O).cell 1 rfl
          have Oc2_5 := (unhide O).cell 2 rfl
          go_wp2_with fail
          clear Oc0_5 Oc1_5 Oc2_5
          have NXS : x.b.name.size ≤ 1048576 := by rw [unhide NX]; exact hz
          refine (drop_any _ g0 _ _ mbP s.valid P x _ (open_len (unhide HPP) (unhide FT)) NXS (List.mem_of_getElem? (unhide HK)) (unhide O) (unhide OSP)).mono ?_
          rintro e wcw7 ⟨rfl, v5, hO, hPt, hOb, hgb⟩
          clear NXS
          have R_ := hide (hgb.obj (unhide R) ((unhide OSP).not_gone (unhide R) (unhide O) (by decide) (by decide)))
          have BB_ : Hid (Below w.heap.size w wcw7) := (unhide BB).trans (hgb.toBelow (unhide BB).size ((unhide OSP).low loO))
          have APP := hide (List.Pairwise.filter (fun p : Lb × Nat => !decide (p.2 = g0)) (unhide OSP).apart)
          have OBJ := hide (hOb.sub (P' := P.filter (fun p => !decide (p.2 = g0))) (fun p hp => (List.mem_filter.1 hp).1))
          obtain ⟨a5, c5, rfl⟩ := g_shape hPt
          have PQ : (P.filter (fun p => !decide (p.2 = g0))).map (·.2) = (P.map (·.2)).filter (fun k => !decide (k = g0)) := left_blocks P g0
          have LN : Hid ((P.filter (fun p => !decide (p.2 = g0))).length ≤ 1048578) := Nat.le_trans (List.length_filter_le _ _) (open_len (unhide HPP) (unhide FT))
          rw [← PQ] at hPt hO
          have ROW := hide hPt
          have O_ := hide hO
          clear hO hPt hOb hgb PQ OSP R O BB S1 A
          have R := R_
          have O := O_
          have BB := BB_
          clear R_ O_ BB_
          rw [List.length_map] at O ROW
          generalize (P.filter (fun p => !decide (p.2 = g0))) = Q at *
          have Oc0_6 := (unhide O).cell 0 rfl
          have Oc1_6 := (unhide O).cell 1 rfl
          have Oc2_6 := (unhide O).cell 2 rfl
          go_wp2_with fail
          clear Oc0_6 Oc1_6 Oc2_6
          refine (stored_any _ mbP s.valid _ Q _ (unhide LN) (unhide ROW) (unhide OBJ)).mono ?_
          rintro e wcw8 ⟨v9, rfl, o9, hb⟩
          obtain ⟨a9, c9, rfl⟩ := g_shape o9
          have OW_ := hide (own_of (unhide OBJ) (unhide APP) (unhide DP) o9 hb (unhide BB).size)
          clear o9
          rw [List.length_map] at OW_ ⊢
          have R_ := hide ((unhide R).ups hb)
          clear R
          have R := R_
          clear R_
          have O_ := hide ((unhide O).ups hb)
          clear O
          have O := O_
          clear O_
          have sz7 := hide (hb.size)
          have BB_ := hide (below_y (unhide BB) hb)
          clear BB
          have BB := BB_
          clear BB_
          clear hb
          have OW := OW_
          clear OW_
          have Rf0 := (unhide R).frozen 0
          have Rf1 := (unhide R).frozen 1
          have Re0 := (unhide R).cell 0 rfl
          have Re1 := (unhide R).cell 1 rfl
          have F := hide (fill2 (unhide R) (.slice a9 Q.length c9) (.int .i64 s.valid))
          obtain ⟨U, hU⟩ : ∃ U, U = ((wcw8.setCell ⟨wc1.heap.size, 0, none⟩ (.slice a9 Q.length c9)).setCell ⟨wc1.heap.size, 1, none⟩ (.int .i64 s.valid)) := ⟨_, rfl⟩
          have F9 := unhide F
          rw [← hU] at F9
          have EU := hU.symm
          clear F hU
          have v0 := F9.obj.cell 0 rfl
          have v1 := F9.obj.cell 1 rfl
          have F := hide F9
          clear F9
          go_wp2_with (refine bodyPost_ret (by simp [results, Try.results14, go_sem, v0, v1]; try rfl) rfl ?_)
          clear EU
          have F := unhide F
          rw [unhide ANS]
          exact ⟨_, rfl, (unhide OW).filled F (by decide) (by decide) (by decide), F.below loR (unhide BB)⟩
end Go.Proofs.Ytecognggnbopaac
