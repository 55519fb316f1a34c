/- FnFrames's walk. -/
import Derived.Test.YtnlcknklghalkaaDoorCutPlain
import Derived.Test.YtnlcknklghalkaaDoorUnframeI
import Derived.Test.YtnlcknklghalkaaDoorSameTexts
import Derived.Test.YtnlcknklghalkaaDoorDrawHexF
namespace Go.Proofs.YtnlcknklghalkaaDoor
open Go.RowKit
open Plain
set_option linter.unusedVariables false

namespace Plain
def oneL : List UInt8 := [111, 110, 101]
def twoL : List UInt8 := [116, 119, 111]
def threeL : List UInt8 := [116, 104, 114, 101, 101, 32, 97, 110, 100, 32, 109, 111, 114, 101]
theorem three_ok {t : List UInt8} (h1 : 1 ≤ t.length) (h2 : t.length ≤ 900) : ∀ x ∈ [t, twoL, threeL], 1 ≤ x.length ∧ x.length ≤ 9000 := by
  intro x hx
  simp at hx
  rcases hx with rfl | rfl | rfl
  · omega
  · decide
  · decide
theorem farL_le (L : List (List UInt8)) (k : Nat) : farL L k ≤ (catL L).length := by
  have h8 : catL L = catL (L.take k) ++ catL (L.drop k) := by rw [← catL_append, List.take_append_drop]
  rw [h8, List.length_append]
  exact Nat.le_add_right _ _
theorem three_len {t : List UInt8} (h2 : t.length ≤ 900) : (catL [t, twoL, threeL]).length ≤ 1000 := by
  have a := frameL_le t
  have b := frameL_le twoL
  have c := frameL_le threeL
  have b2 : twoL.length = 3 := rfl
  have c2 : threeL.length = 14 := rfl
  show (frameL t ++ (frameL twoL ++ (frameL threeL ++ []))).length ≤ _
  simp only [List.length_append, List.length_nil]
  omega
end Plain

theorem bigF_any (len cap : Nat) (a : Option Addr) (w : World) (hl : len ≤ 9223372036854775807) :
    Calls Tryd.prog 6 #[.slice a len cap] w fun e w' => e = .returned (.bool (decide ((1048576 : Int) < len))) ∧ w' = w := by
  go_enter Tryd.func6, Tryd.ntmps6
  go_wp2
  go_ret
  exact ⟨rfl, rfl⟩

/-- Behind some rounds of the law's loop. -/
def FrLoop (w2 : World) (L : List (List UInt8)) (k : Nat) (v : Value) (wr : World) : Prop :=
  wr.ownsRow w2.heap.size 9 1 (.slice (some ⟨w2.heap.size, 0, none⟩) 3 3) 3 (strs L) ∧ wr.ownsRow (w2.heap.size + 1) 3 1 v (k + 1) (iv (farsL L k)) ∧ w2.heap.size + 1 ≤ wr.heap.size ∧ Below w2.heap.size w2 wr

set_option maxHeartbeats 8000000 in
set_option maxRecDepth 100000 in
theorem frames_any (len cap : Nat) (a : Option Addr) (w : World) (ha : Arg w.heap.size w a len) (ht : Tabbed w) :
    Calls Tryd.prog 3 #[.slice a len cap] w fun e w' => e = .returned (.bool true) ∧ Below w.heap.size w w' := by
  obtain ⟨i0, hi, hz0, hz1, hz2⟩ := info_parts Tryd.infoInt
  have hl := ha.1
  have d0 : decide ((1048576 : Int) < (len : Int)) = false := by simp; omega
  have q0 := bigF_any len cap a w (by omega)
  rw [d0] at q0
  have Q0 := hide q0
  have q1 := hide (DrawPlaces_any w.heap.size len cap a w ha (Nat.le_refl _))
  have q2 := hide (fun W (hb : Below w.heap.size w W) => DrawHex_any w.heap.size len cap a W (ha.below hb) hb.size)
  have HT := hide ht
  clear ha ht d0 q0
  go_enter Tryd.func3, Tryd.ntmps3
  go_wp2_with fail
  refine (unhide Q0).mono ?_
  rintro e w0 ⟨rfl, hw0⟩
  subst w0
  clear Q0
  go_wp2_with fail
  refine (unhide q1).mono ?_
  rintro e w1 ⟨vp, lp, hlp, hall, rfl, ownP, hb1⟩
  obtain ⟨gp, cp, rfl⟩ : ∃ gp cp, vp = .slice (some ⟨gp, 0, none⟩) 12 cp := by
    rcases ownP.2 with ⟨_, h⟩ | ⟨g, c, cur, h, _⟩
    · cases h
    · exact ⟨g, c, h⟩
  obtain ⟨p0, hp0, hpc⟩ : ∃ p0 : Nat, p0 < 10000 ∧ w1.cell? ⟨gp, 0, none⟩ = some (.int .i64 (p0 : Int)) := by
    have hx : lp[0]? = some lp[0] := List.getElem?_eq_getElem (by omega)
    refine ⟨lp[0], hall _ (List.getElem_mem _), ?_⟩
    rw [ownP.cellAt 0 (by decide)]
    unfold iv
    rw [List.getElem?_map, hx]
    rfl
  have hgp : gp < w1.heap.size := (ownP.lt gp rfl).2
  have PC := hide (fun W (hb : Below w1.heap.size w1 W) => (hb.cell (p := ⟨gp, 0, none⟩) hgp).trans hpc)
  have B1 := hide hb1
  clear q1 ownP hall hlp hpc hb1 hgp
  go_wp2_with fail
  refine (unhide q2 _ (unhide B1)).mono ?_
  rintro e w2 ⟨T, hT, rfl, hb2⟩
  have B2 := hide hb2
  clear hb2 q2
  by_cases hz : T.size = 0
  · have d1 : ((T.size : Int) == 0) = true := by rw [beq_iff_eq]; omega
    have o0 := World.ownsRow_lit (base := w2.heap.size) (e := 9) (size := 1) w2 #[.string ⟨#[111, 110, 101]⟩, .string ⟨#[116, 119, 111]⟩, .string ⟨#[116, 104, 114, 101, 101, 32, 97, 110, 100, 32, 109, 111, 114, 101]⟩] 3 (Nat.le_refl _) (by decide) rfl
    obtain ⟨L, hLd⟩ : ∃ L, L = [oneL, twoL, threeL] := ⟨_, rfl⟩
    have hok := three_ok (t := oneL) (by decide) (by decide)
    have hln := three_len (t := oneL) (by decide)
    have oL : (w2.alloc (.cells #[.string ⟨#[111, 110, 101]⟩, .string ⟨#[116, 119, 111]⟩, .string ⟨#[116, 104, 114, 101, 101, 32, 97, 110, 100, 32, 109, 111, 114, 101]⟩] 9)).ownsRow w2.heap.size 9 1 (.slice (some ⟨w2.heap.size, 0, none⟩) 3 3) 3 (strs L) := by rw [hLd]; exact o0
    have hL3 : L.length = 3 := by rw [hLd]; rfl
    rw [← hLd] at hok hln
    have OL := hide oL
    have bx := hide ((Below.refl w2.heap.size w2).alloc (Nat.le_refl _) (.cells #[.string ⟨#[111, 110, 101]⟩, .string ⟨#[116, 119, 111]⟩, .string ⟨#[116, 104, 114, 101, 101, 32, 97, 110, 100, 32, 109, 111, 114, 101]⟩] 9))
    clear oL hLd o0
    go_wp2
    go_loopw [5, 6, 7] (fun f v i wr => ∃ k : Nat, k ≤ 3 ∧ i = .int .i64 k ∧ f = .string ⟨(catL (L.take k)).toArray⟩ ∧ FrLoop w2 L k v wr) (fun _ _ i _ => 3 - (intOf i).toNat)
    case atStart =>
      refine ⟨0, Nat.zero_le _, rfl, rfl, (unhide OL).alloc _, ?_, by simp, (unhide bx).alloc (by simp) _⟩
      have oE0 := World.ownsRow_lit (base := w2.heap.size + 1) (e := 3) (size := 1) (w2.alloc (.cells #[.string ⟨#[111, 110, 101]⟩, .string ⟨#[116, 119, 111]⟩, .string ⟨#[116, 104, 114, 101, 101, 32, 97, 110, 100, 32, 109, 111, 114, 101]⟩] 9)) #[.int .i64 0] 1 (by simp) (by decide) rfl
      rw [World.size_alloc] at oE0
      exact oE0
    case round =>
      obtain ⟨k, hk, rfl, rfl, oL, oE, hsz, hbel⟩ := hrel
      have hbw : Hid (Below w.heap.size w wr) := (unhide B1).trans ((below2 (unhide B2) hbel).mono (unhide B1).size)
      by_cases hlt : k < 3
      · obtain ⟨x, hx⟩ : ∃ x, L[k]? = some x := ⟨_, List.getElem?_eq_getElem (by omega)⟩
        have hxm : x ∈ L := List.mem_of_getElem? hx
        have hxk := hok x hxm
        have hcell := str_cell oL hx hlt
        have hcat : catL (L.take (k + 1)) = catL (L.take k) ++ frameL x := by
          have := catL_snoc (L := L) (k := k) (by omega)
          rw [(List.getElem?_eq_some_iff.1 hx).2] at this
          exact this
        have hfar : farL L (k + 1) ≤ 1000 := Nat.le_trans (farL_le L (k + 1)) hln
        have hfe : farL L (k + 1) = (catL (L.take k)).length + (frameL x).length := by unfold farL; rw [hcat, List.length_append]
        have qF : Calls Tryd.prog 9 #[.string ⟨x.toArray⟩] wr fun e w' => e = .returned (.tuple #[.string ⟨(frameL x).toArray⟩, .bool true]) ∧ Below wr.heap.size wr w' := impl_Frame_yes ⟨x.toArray⟩ wr hxk.1 hxk.2 ((unhide HT).below (unhide hbw))
        have QF := hide qF
        have OLk := hide oL
        have OEk := hide oE
        have HC := hide hcat
        have HFE := hide hfe
        have BR := hide hbel
        have s1 : (⟨(catL (L.take k)).toArray⟩ : ByteArray).size ≤ 1000 := by show (catL (L.take k)).length ≤ 1000; omega
        have s2 : (⟨(frameL x).toArray⟩ : ByteArray).size ≤ 1000 := by show (frameL x).length ≤ 1000; omega
        clear qF oL oE hcat hfe hfar hxm hxk hx hbel
        go_wp2_with fail
        refine (unhide QF).mono ?_
        rintro e w3 ⟨rfl, hb3⟩
        have oL3 := hide (own_below (unhide OLk) hb3)
        have oE3 := own_below (unhide OEk) hb3
        have hs3 : w2.heap.size + 1 ≤ w3.heap.size := Nat.le_trans hsz hb3.size
        have b3 := hide ((unhide BR).trans (hb3.mono (by omega)))
        clear hb3 QF
        go_wp2_with (at_builtin; refine wpList_append_own _ rfl _ _ 24 rfl (w2.heap.size + 1) 3 i0 (.int .i64 0) 1 8 Tryd.underlying24 hi hz0 hz1 hz2 rfl (by decide) _ _ _ rfl (oE3.alloc _) ⟨w3.heap.size, 0, none⟩ 1 1 [.int .i64 (((catL (L.take k)).length : Int) + ((frameL x).length : Int))] rfl rfl (news_int _) ?c2 ?c3 ?c4 ?c5 ?_)
        case c2 => intro u hu; simp at hu; subst hu; rfl
        case c3 => unfold maxLen; omega
        case c4 => omega
        case c5 => simp; omega
        intro v' w4 hown' hgrow _
        have oL4 := hide (((unhide oL3).alloc (.cells #[.int .i64 (((catL (L.take k)).length : Int) + ((frameL x).length : Int))] 3)).kept hgrow (.inr (fun e => by have := (oE3.lt w2.heap.size e.symm).1; omega)))
        have oE4 : w4.ownsRow (w2.heap.size + 1) 3 1 v' (k + 1 + 1) (iv (farsL L (k + 1))) := by
          rw [farsL_succ, iv_append, unhide HFE]
          exact hown'
        have b4 : Below w2.heap.size w2 w4 := ((unhide b3).alloc (by omega) _).grown hgrow (by simp; omega) (fun j hj => by have := (oE3.lt j hj).1; omega)
        have hs4 : w2.heap.size + 1 ≤ w4.heap.size := by have := hgrow.size; simp at this; omega
        have OE4 := hide oE4
        have BB4 := hide b4
        clear hown' hgrow oE4 b4 oE3
        go_wp2
        go_roundw
        case rel => exact ⟨k + 1, by omega, by go_num, by rw [unhide HC]; exact congrArg Value.string (ByteArray.mk_append_mk _ _), unhide oL4, unhide OE4, hs4, unhide BB4⟩
        case measure => simp [intOf]; omega
      · have hk3 : k = 3 := by omega
        subst hk3
        have hLt : L.take 3 = L := List.take_of_length_le (by omega)
        rw [hLt]
        clear hlt hk
        have oE' : wr.ownsRow (w2.heap.size + 1) 3 1 u6 4 (iv (farsL L 3)) := oE
        obtain ⟨ge, ce, rfl⟩ : ∃ ge ce, u6 = .slice (some ⟨ge, 0, none⟩) 4 ce := ownsRow_succ oE'
        clear oE
        have oE := oE'
        clear oE'
        obtain ⟨F, hF⟩ : ∃ F : ByteArray, F = ⟨(catL L).toArray⟩ := ⟨_, rfl⟩
        have hFs : F.size ≤ 1000 := by rw [hF]; exact hln
        have hFd : F.data.toList = catL L := by rw [hF]
        have hFz : F.size = (catL L).length := by rw [hF]; rfl
        rw [← hF]
        obtain ⟨ua1, ua2, ua3⟩ := un_all hok (show (catL L).length ≤ 20000 by omega)
        have qU := impl_Unframe_any F wr (by omega) ((unhide HT).below (unhide hbw))
        unfold UnLeft at qU
        rw [hFd, ua1, ua2, ua3, ← hFz, hL3] at qU
        have QU := hide qU
        have UC := hide (fun K (hK : K ≤ F.size) => un_cut hok K (by rw [List.length_take, ← hFz]; omega))
        have HD := hide hFd
        have OLk := hide oL
        have OEk := hide oE
        have BR := hide hbel
        clear qU ua1 ua2 ua3 hok hln hF hFd hFz hLt oL oE hbel
        go_wp2_with fail
        refine (unhide QU).mono ?_
        rintro e w5 ⟨v5, rfl, o5, hb5⟩
        have oL5 := hide (own_below (unhide OLk) hb5)
        have oE5 := hide (own_below (unhide OEk) hb5)
        have B5 := hide ((unhide BR).trans (hb5.mono (by omega)))
        have B5w := hide (below2 (unhide hbw) hb5)
        have hs5 : w2.heap.size + 1 ≤ w5.heap.size := Nat.le_trans hsz hb5.size
        have O5 := hide o5
        clear QU hb5 o5 OLk OEk BR hbw
        go_wp2_with fail
        refine (sameTexts_same L v5 _ _ _ 3 w5 hL3.symm (by omega) (unhide O5) (unhide oL5)).mono ?_
        rintro e w6 ⟨rfl, q, rfl⟩
        obtain ⟨K, hK⟩ : ∃ K, K = p0 % (F.size + 1) := ⟨_, rfl⟩
        have hKl : K ≤ F.size := by have := Nat.mod_lt p0 (show 0 < F.size + 1 by omega); omega
        have hKe : (p0 : Int) % ((F.size : Int) + 1) = (K : Int) := by rw [hK]; simp
        clear hK
        have pc := unhide PC (w5.drewN q) (below_drewN (below2 (unhide B2) (unhide B5)) q)
        go_wp2_with fail
        rw [hKe]
        obtain ⟨m, um1, um2, um3, um4, um5, um6⟩ := unhide UC K hKl
        rw [hL3] at um1 um6
        have hxd : (F.extract 0 K).data.toList = (catL L).take K := by rw [Lib.extract_data, ← unhide HD]; simp
        have qV := impl_Unframe_any (F.extract 0 K) (w5.drewN q) (by rw [ByteArray.size_extract]; omega) ((unhide HT).below (below_drewN (unhide B5w) q))
        unfold UnLeft at qV
        rw [hxd, um2, um3, um4] at qV
        refine qV.mono ?_
        rintro e w7 ⟨v7, rfl, o7, hb7⟩
        obtain ⟨xa, xc, rfl⟩ : ∃ xa xc, v7 = .slice xa m xc := by
          rcases o7.2 with ⟨h, h0⟩ | ⟨g, c, cur, h, _⟩
          · exact ⟨none, 0, by rw [h0]; exact h⟩
          · exact ⟨_, _, h⟩
        have oL7 := own_below (w := w5.drewN q) (unhide oL5) hb7
        have oE7 := own_below (w := w5.drewN q) (unhide oE5) hb7
        have ot7 := own_take (m := m) oL7 um1
        have et7 : (strs L).take m = strs (L.take m) := by unfold strs; rw [List.map_take]
        rw [et7] at ot7
        have cm : w7.cell? ⟨ge, m, none⟩ = some (.int .i64 (farL L m : Int)) := by
          rw [oE7.cellAt m (by omega)]
          unfold iv
          rw [List.getElem?_map, farsL_get (by omega)]
          rfl
        have cm1 : m < 3 → w7.cell? ⟨ge, m + 1, none⟩ = some (.int .i64 (farL L (m + 1) : Int)) := fun h => by
          rw [oE7.cellAt (m + 1) (by omega)]
          unfold iv
          rw [List.getElem?_map, farsL_get (by omega)]
          rfl
        have qS := hide (sameTexts_same (L.take m) (.slice xa m xc) (.slice (some ⟨w2.heap.size, 0, none⟩) m 3) _ _ m w7 (by rw [List.length_take]; omega) (by omega) o7 ot7)
        have B7 := hide (below2 (below_drewN (unhide B5w) q) hb7)
        have dm : decide ((m : Int) ≤ 3) = true := by simp; omega
        have dK : decide ((farL L m : Int) ≤ (K : Int)) = true := by simp; omega
        have i0m : (0 : Int) ≤ (m : Int) := by omega
        have i1m : (m : Int) < 4 := by omega
        have i2m : (m : Int) ≤ 3 := by omega
        clear qV o7 hb7 oL7 oE7 ot7 et7 um2 um3 um4 UC hxd
        by_cases hm3 : m = 3
        · subst hm3
          clear dm i0m i1m i2m cm1 um6
          go_wp2_with (go_at_call 11; refine (unhide qS).mono ?_; rintro e w8 ⟨rfl, q8, rfl⟩)
          go_ret
          exact ⟨rfl, below_drewN (unhide B7) _⟩
        · have e3 : ((m : Int) == 3) = false := by rw [beq_eq_false_iff_ne]; omega
          have c1 := cm1 (by omega)
          have i3m : (m : Int) + 1 < 4 := by omega
          have i4m : (0 : Int) ≤ (m : Int) + 1 := by omega
          have dE := hide (show decide (K < farL L (m + 1)) = true by simp; omega)
          have c1q := fun n => (show (w7.drewN n).cell? ⟨ge, m + 1, none⟩ = some (.int .i64 (farL L (m + 1) : Int)) from c1)
          go_wp2_with (go_at_call 11; refine (unhide qS).mono ?_; rintro e w8 ⟨rfl, q8, rfl⟩)
          go_ret
          refine ⟨?_, below_drewN (unhide B7) _⟩
          rw [unhide dE]
          rfl
  · by_cases h9 : 900 < T.size
    · have d1 : ((T.size : Int) == 0) = false := by rw [beq_eq_false_iff_ne]; omega
      have d2 : decide ((900 : Int) < (T.size : Int)) = true := by simp; omega
      have o0 := World.ownsRow_lit (base := w2.heap.size) (e := 9) (size := 1) w2 #[.string ⟨#[111, 110, 101]⟩, .string ⟨#[116, 119, 111]⟩, .string ⟨#[116, 104, 114, 101, 101, 32, 97, 110, 100, 32, 109, 111, 114, 101]⟩] 3 (Nat.le_refl _) (by decide) rfl
      obtain ⟨L, hLd⟩ : ∃ L, L = [oneL, twoL, threeL] := ⟨_, rfl⟩
      have hok := three_ok (t := oneL) (by decide) (by decide)
      have hln := three_len (t := oneL) (by decide)
      have oL : (w2.alloc (.cells #[.string ⟨#[111, 110, 101]⟩, .string ⟨#[116, 119, 111]⟩, .string ⟨#[116, 104, 114, 101, 101, 32, 97, 110, 100, 32, 109, 111, 114, 101]⟩] 9)).ownsRow w2.heap.size 9 1 (.slice (some ⟨w2.heap.size, 0, none⟩) 3 3) 3 (strs L) := by rw [hLd]; exact o0
      have hL3 : L.length = 3 := by rw [hLd]; rfl
      rw [← hLd] at hok hln
      have OL := hide oL
      have bx := hide ((Below.refl w2.heap.size w2).alloc (Nat.le_refl _) (.cells #[.string ⟨#[111, 110, 101]⟩, .string ⟨#[116, 119, 111]⟩, .string ⟨#[116, 104, 114, 101, 101, 32, 97, 110, 100, 32, 109, 111, 114, 101]⟩] 9))
      clear oL hLd o0
      go_wp2
      go_loopw [5, 6, 7] (fun f v i wr => ∃ k : Nat, k ≤ 3 ∧ i = .int .i64 k ∧ f = .string ⟨(catL (L.take k)).toArray⟩ ∧ FrLoop w2 L k v wr) (fun _ _ i _ => 3 - (intOf i).toNat)
      case atStart =>
        refine ⟨0, Nat.zero_le _, rfl, rfl, (unhide OL).alloc _, ?_, by simp, (unhide bx).alloc (by simp) _⟩
        have oE0 := World.ownsRow_lit (base := w2.heap.size + 1) (e := 3) (size := 1) (w2.alloc (.cells #[.string ⟨#[111, 110, 101]⟩, .string ⟨#[116, 119, 111]⟩, .string ⟨#[116, 104, 114, 101, 101, 32, 97, 110, 100, 32, 109, 111, 114, 101]⟩] 9)) #[.int .i64 0] 1 (by simp) (by decide) rfl
        rw [World.size_alloc] at oE0
        exact oE0
      case round =>
        obtain ⟨k, hk, rfl, rfl, oL, oE, hsz, hbel⟩ := hrel
        have hbw : Hid (Below w.heap.size w wr) := (unhide B1).trans ((below2 (unhide B2) hbel).mono (unhide B1).size)
        by_cases hlt : k < 3
        · obtain ⟨x, hx⟩ : ∃ x, L[k]? = some x := ⟨_, List.getElem?_eq_getElem (by omega)⟩
          have hxm : x ∈ L := List.mem_of_getElem? hx
          have hxk := hok x hxm
          have hcell := str_cell oL hx hlt
          have hcat : catL (L.take (k + 1)) = catL (L.take k) ++ frameL x := by
            have := catL_snoc (L := L) (k := k) (by omega)
            rw [(List.getElem?_eq_some_iff.1 hx).2] at this
            exact this
          have hfar : farL L (k + 1) ≤ 1000 := Nat.le_trans (farL_le L (k + 1)) hln
          have hfe : farL L (k + 1) = (catL (L.take k)).length + (frameL x).length := by unfold farL; rw [hcat, List.length_append]
          have qF : Calls Tryd.prog 9 #[.string ⟨x.toArray⟩] wr fun e w' => e = .returned (.tuple #[.string ⟨(frameL x).toArray⟩, .bool true]) ∧ Below wr.heap.size wr w' := impl_Frame_yes ⟨x.toArray⟩ wr hxk.1 hxk.2 ((unhide HT).below (unhide hbw))
          have QF := hide qF
          have OLk := hide oL
          have OEk := hide oE
          have HC := hide hcat
          have HFE := hide hfe
          have BR := hide hbel
          have s1 : (⟨(catL (L.take k)).toArray⟩ : ByteArray).size ≤ 1000 := by show (catL (L.take k)).length ≤ 1000; omega
          have s2 : (⟨(frameL x).toArray⟩ : ByteArray).size ≤ 1000 := by show (frameL x).length ≤ 1000; omega
          clear qF oL oE hcat hfe hfar hxm hxk hx hbel
          go_wp2_with fail
          refine (unhide QF).mono ?_
          rintro e w3 ⟨rfl, hb3⟩
          have oL3 := hide (own_below (unhide OLk) hb3)
          have oE3 := own_below (unhide OEk) hb3
          have hs3 : w2.heap.size + 1 ≤ w3.heap.size := Nat.le_trans hsz hb3.size
          have b3 := hide ((unhide BR).trans (hb3.mono (by omega)))
          clear hb3 QF
          go_wp2_with (at_builtin; refine wpList_append_own _ rfl _ _ 24 rfl (w2.heap.size + 1) 3 i0 (.int .i64 0) 1 8 Tryd.underlying24 hi hz0 hz1 hz2 rfl (by decide) _ _ _ rfl (oE3.alloc _) ⟨w3.heap.size, 0, none⟩ 1 1 [.int .i64 (((catL (L.take k)).length : Int) + ((frameL x).length : Int))] rfl rfl (news_int _) ?c2 ?c3 ?c4 ?c5 ?_)
          case c2 => intro u hu; simp at hu; subst hu; rfl
          case c3 => unfold maxLen; omega
          case c4 => omega
          case c5 => simp; omega
          intro v' w4 hown' hgrow _
          have oL4 := hide (((unhide oL3).alloc (.cells #[.int .i64 (((catL (L.take k)).length : Int) + ((frameL x).length : Int))] 3)).kept hgrow (.inr (fun e => by have := (oE3.lt w2.heap.size e.symm).1; omega)))
          have oE4 : w4.ownsRow (w2.heap.size + 1) 3 1 v' (k + 1 + 1) (iv (farsL L (k + 1))) := by
            rw [farsL_succ, iv_append, unhide HFE]
            exact hown'
          have b4 : Below w2.heap.size w2 w4 := ((unhide b3).alloc (by omega) _).grown hgrow (by simp; omega) (fun j hj => by have := (oE3.lt j hj).1; omega)
          have hs4 : w2.heap.size + 1 ≤ w4.heap.size := by have := hgrow.size; simp at this; omega
          have OE4 := hide oE4
          have BB4 := hide b4
          clear hown' hgrow oE4 b4 oE3
          go_wp2
          go_roundw
          case rel => exact ⟨k + 1, by omega, by go_num, by rw [unhide HC]; exact congrArg Value.string (ByteArray.mk_append_mk _ _), unhide oL4, unhide OE4, hs4, unhide BB4⟩
          case measure => simp [intOf]; omega
        · have hk3 : k = 3 := by omega
          subst hk3
          have hLt : L.take 3 = L := List.take_of_length_le (by omega)
          rw [hLt]
          clear hlt hk
          have oE' : wr.ownsRow (w2.heap.size + 1) 3 1 u6 4 (iv (farsL L 3)) := oE
          obtain ⟨ge, ce, rfl⟩ : ∃ ge ce, u6 = .slice (some ⟨ge, 0, none⟩) 4 ce := ownsRow_succ oE'
          clear oE
          have oE := oE'
          clear oE'
          obtain ⟨F, hF⟩ : ∃ F : ByteArray, F = ⟨(catL L).toArray⟩ := ⟨_, rfl⟩
          have hFs : F.size ≤ 1000 := by rw [hF]; exact hln
          have hFd : F.data.toList = catL L := by rw [hF]
          have hFz : F.size = (catL L).length := by rw [hF]; rfl
          rw [← hF]
          obtain ⟨ua1, ua2, ua3⟩ := un_all hok (show (catL L).length ≤ 20000 by omega)
          have qU := impl_Unframe_any F wr (by omega) ((unhide HT).below (unhide hbw))
          unfold UnLeft at qU
          rw [hFd, ua1, ua2, ua3, ← hFz, hL3] at qU
          have QU := hide qU
          have UC := hide (fun K (hK : K ≤ F.size) => un_cut hok K (by rw [List.length_take, ← hFz]; omega))
          have HD := hide hFd
          have OLk := hide oL
          have OEk := hide oE
          have BR := hide hbel
          clear qU ua1 ua2 ua3 hok hln hF hFd hFz hLt oL oE hbel
          go_wp2_with fail
          refine (unhide QU).mono ?_
          rintro e w5 ⟨v5, rfl, o5, hb5⟩
          have oL5 := hide (own_below (unhide OLk) hb5)
          have oE5 := hide (own_below (unhide OEk) hb5)
          have B5 := hide ((unhide BR).trans (hb5.mono (by omega)))
          have B5w := hide (below2 (unhide hbw) hb5)
          have hs5 : w2.heap.size + 1 ≤ w5.heap.size := Nat.le_trans hsz hb5.size
          have O5 := hide o5
          clear QU hb5 o5 OLk OEk BR hbw
          go_wp2_with fail
          refine (sameTexts_same L v5 _ _ _ 3 w5 hL3.symm (by omega) (unhide O5) (unhide oL5)).mono ?_
          rintro e w6 ⟨rfl, q, rfl⟩
          obtain ⟨K, hK⟩ : ∃ K, K = p0 % (F.size + 1) := ⟨_, rfl⟩
          have hKl : K ≤ F.size := by have := Nat.mod_lt p0 (show 0 < F.size + 1 by omega); omega
          have hKe : (p0 : Int) % ((F.size : Int) + 1) = (K : Int) := by rw [hK]; simp
          clear hK
          have pc := unhide PC (w5.drewN q) (below_drewN (below2 (unhide B2) (unhide B5)) q)
          go_wp2_with fail
          rw [hKe]
          obtain ⟨m, um1, um2, um3, um4, um5, um6⟩ := unhide UC K hKl
          rw [hL3] at um1 um6
          have hxd : (F.extract 0 K).data.toList = (catL L).take K := by rw [Lib.extract_data, ← unhide HD]; simp
          have qV := impl_Unframe_any (F.extract 0 K) (w5.drewN q) (by rw [ByteArray.size_extract]; omega) ((unhide HT).below (below_drewN (unhide B5w) q))
          unfold UnLeft at qV
          rw [hxd, um2, um3, um4] at qV
          refine qV.mono ?_
          rintro e w7 ⟨v7, rfl, o7, hb7⟩
          obtain ⟨xa, xc, rfl⟩ : ∃ xa xc, v7 = .slice xa m xc := by
            rcases o7.2 with ⟨h, h0⟩ | ⟨g, c, cur, h, _⟩
            · exact ⟨none, 0, by rw [h0]; exact h⟩
            · exact ⟨_, _, h⟩
          have oL7 := own_below (w := w5.drewN q) (unhide oL5) hb7
          have oE7 := own_below (w := w5.drewN q) (unhide oE5) hb7
          have ot7 := own_take (m := m) oL7 um1
          have et7 : (strs L).take m = strs (L.take m) := by unfold strs; rw [List.map_take]
          rw [et7] at ot7
          have cm : w7.cell? ⟨ge, m, none⟩ = some (.int .i64 (farL L m : Int)) := by
            rw [oE7.cellAt m (by omega)]
            unfold iv
            rw [List.getElem?_map, farsL_get (by omega)]
            rfl
          have cm1 : m < 3 → w7.cell? ⟨ge, m + 1, none⟩ = some (.int .i64 (farL L (m + 1) : Int)) := fun h => by
            rw [oE7.cellAt (m + 1) (by omega)]
            unfold iv
            rw [List.getElem?_map, farsL_get (by omega)]
            rfl
          have qS := hide (sameTexts_same (L.take m) (.slice xa m xc) (.slice (some ⟨w2.heap.size, 0, none⟩) m 3) _ _ m w7 (by rw [List.length_take]; omega) (by omega) o7 ot7)
          have B7 := hide (below2 (below_drewN (unhide B5w) q) hb7)
          have dm : decide ((m : Int) ≤ 3) = true := by simp; omega
          have dK : decide ((farL L m : Int) ≤ (K : Int)) = true := by simp; omega
          have i0m : (0 : Int) ≤ (m : Int) := by omega
          have i1m : (m : Int) < 4 := by omega
          have i2m : (m : Int) ≤ 3 := by omega
          clear qV o7 hb7 oL7 oE7 ot7 et7 um2 um3 um4 UC hxd
          by_cases hm3 : m = 3
          · subst hm3
            clear dm i0m i1m i2m cm1 um6
            go_wp2_with (go_at_call 11; refine (unhide qS).mono ?_; rintro e w8 ⟨rfl, q8, rfl⟩)
            go_ret
            exact ⟨rfl, below_drewN (unhide B7) _⟩
          · have e3 : ((m : Int) == 3) = false := by rw [beq_eq_false_iff_ne]; omega
            have c1 := cm1 (by omega)
            have i3m : (m : Int) + 1 < 4 := by omega
            have i4m : (0 : Int) ≤ (m : Int) + 1 := by omega
            have dE := hide (show decide (K < farL L (m + 1)) = true by simp; omega)
            have c1q := fun n => (show (w7.drewN n).cell? ⟨ge, m + 1, none⟩ = some (.int .i64 (farL L (m + 1) : Int)) from c1)
            go_wp2_with (go_at_call 11; refine (unhide qS).mono ?_; rintro e w8 ⟨rfl, q8, rfl⟩)
            go_ret
            refine ⟨?_, below_drewN (unhide B7) _⟩
            rw [unhide dE]
            rfl
    · have d1 : ((T.size : Int) == 0) = false := by rw [beq_eq_false_iff_ne]; omega
      have d2 : decide ((900 : Int) < (T.size : Int)) = false := by simp; omega
      have o0 := World.ownsRow_lit (base := w2.heap.size) (e := 9) (size := 1) w2 #[.string T, .string ⟨#[116, 119, 111]⟩, .string ⟨#[116, 104, 114, 101, 101, 32, 97, 110, 100, 32, 109, 111, 114, 101]⟩] 3 (Nat.le_refl _) (by decide) rfl
      obtain ⟨L, hLd⟩ : ∃ L, L = [T.data.toList, twoL, threeL] := ⟨_, rfl⟩
      have hok := three_ok (t := T.data.toList) (by show 1 ≤ T.size; omega) (by show T.size ≤ 900; omega)
      have hln := three_len (t := T.data.toList) (by show T.size ≤ 900; omega)
      have oL : (w2.alloc (.cells #[.string T, .string ⟨#[116, 119, 111]⟩, .string ⟨#[116, 104, 114, 101, 101, 32, 97, 110, 100, 32, 109, 111, 114, 101]⟩] 9)).ownsRow w2.heap.size 9 1 (.slice (some ⟨w2.heap.size, 0, none⟩) 3 3) 3 (strs L) := by rw [hLd]; exact o0
      have hL3 : L.length = 3 := by rw [hLd]; rfl
      rw [← hLd] at hok hln
      have OL := hide oL
      have bx := hide ((Below.refl w2.heap.size w2).alloc (Nat.le_refl _) (.cells #[.string T, .string ⟨#[116, 119, 111]⟩, .string ⟨#[116, 104, 114, 101, 101, 32, 97, 110, 100, 32, 109, 111, 114, 101]⟩] 9))
      clear oL hLd o0
      go_wp2
      go_loopw [5, 6, 7] (fun f v i wr => ∃ k : Nat, k ≤ 3 ∧ i = .int .i64 k ∧ f = .string ⟨(catL (L.take k)).toArray⟩ ∧ FrLoop w2 L k v wr) (fun _ _ i _ => 3 - (intOf i).toNat)
      case atStart =>
        refine ⟨0, Nat.zero_le _, rfl, rfl, (unhide OL).alloc _, ?_, by simp, (unhide bx).alloc (by simp) _⟩
        have oE0 := World.ownsRow_lit (base := w2.heap.size + 1) (e := 3) (size := 1) (w2.alloc (.cells #[.string T, .string ⟨#[116, 119, 111]⟩, .string ⟨#[116, 104, 114, 101, 101, 32, 97, 110, 100, 32, 109, 111, 114, 101]⟩] 9)) #[.int .i64 0] 1 (by simp) (by decide) rfl
        rw [World.size_alloc] at oE0
        exact oE0
      case round =>
        obtain ⟨k, hk, rfl, rfl, oL, oE, hsz, hbel⟩ := hrel
        have hbw : Hid (Below w.heap.size w wr) := (unhide B1).trans ((below2 (unhide B2) hbel).mono (unhide B1).size)
        by_cases hlt : k < 3
        · obtain ⟨x, hx⟩ : ∃ x, L[k]? = some x := ⟨_, List.getElem?_eq_getElem (by omega)⟩
          have hxm : x ∈ L := List.mem_of_getElem? hx
          have hxk := hok x hxm
          have hcell := str_cell oL hx hlt
          have hcat : catL (L.take (k + 1)) = catL (L.take k) ++ frameL x := by
            have := catL_snoc (L := L) (k := k) (by omega)
            rw [(List.getElem?_eq_some_iff.1 hx).2] at this
            exact this
          have hfar : farL L (k + 1) ≤ 1000 := Nat.le_trans (farL_le L (k + 1)) hln
          have hfe : farL L (k + 1) = (catL (L.take k)).length + (frameL x).length := by unfold farL; rw [hcat, List.length_append]
          have qF : Calls Tryd.prog 9 #[.string ⟨x.toArray⟩] wr fun e w' => e = .returned (.tuple #[.string ⟨(frameL x).toArray⟩, .bool true]) ∧ Below wr.heap.size wr w' := impl_Frame_yes ⟨x.toArray⟩ wr hxk.1 hxk.2 ((unhide HT).below (unhide hbw))
          have QF := hide qF
          have OLk := hide oL
          have OEk := hide oE
          have HC := hide hcat
          have HFE := hide hfe
          have BR := hide hbel
          have s1 : (⟨(catL (L.take k)).toArray⟩ : ByteArray).size ≤ 1000 := by show (catL (L.take k)).length ≤ 1000; omega
          have s2 : (⟨(frameL x).toArray⟩ : ByteArray).size ≤ 1000 := by show (frameL x).length ≤ 1000; omega
          clear qF oL oE hcat hfe hfar hxm hxk hx hbel
          go_wp2_with fail
          refine (unhide QF).mono ?_
          rintro e w3 ⟨rfl, hb3⟩
          have oL3 := hide (own_below (unhide OLk) hb3)
          have oE3 := own_below (unhide OEk) hb3
          have hs3 : w2.heap.size + 1 ≤ w3.heap.size := Nat.le_trans hsz hb3.size
          have b3 := hide ((unhide BR).trans (hb3.mono (by omega)))
          clear hb3 QF
          go_wp2_with (at_builtin; refine wpList_append_own _ rfl _ _ 24 rfl (w2.heap.size + 1) 3 i0 (.int .i64 0) 1 8 Tryd.underlying24 hi hz0 hz1 hz2 rfl (by decide) _ _ _ rfl (oE3.alloc _) ⟨w3.heap.size, 0, none⟩ 1 1 [.int .i64 (((catL (L.take k)).length : Int) + ((frameL x).length : Int))] rfl rfl (news_int _) ?c2 ?c3 ?c4 ?c5 ?_)
          case c2 => intro u hu; simp at hu; subst hu; rfl
          case c3 => unfold maxLen; omega
          case c4 => omega
          case c5 => simp; omega
          intro v' w4 hown' hgrow _
          have oL4 := hide (((unhide oL3).alloc (.cells #[.int .i64 (((catL (L.take k)).length : Int) + ((frameL x).length : Int))] 3)).kept hgrow (.inr (fun e => by have := (oE3.lt w2.heap.size e.symm).1; omega)))
          have oE4 : w4.ownsRow (w2.heap.size + 1) 3 1 v' (k + 1 + 1) (iv (farsL L (k + 1))) := by
            rw [farsL_succ, iv_append, unhide HFE]
            exact hown'
          have b4 : Below w2.heap.size w2 w4 := ((unhide b3).alloc (by omega) _).grown hgrow (by simp; omega) (fun j hj => by have := (oE3.lt j hj).1; omega)
          have hs4 : w2.heap.size + 1 ≤ w4.heap.size := by have := hgrow.size; simp at this; omega
          have OE4 := hide oE4
          have BB4 := hide b4
          clear hown' hgrow oE4 b4 oE3
          go_wp2
          go_roundw
          case rel => exact ⟨k + 1, by omega, by go_num, by rw [unhide HC]; exact congrArg Value.string (ByteArray.mk_append_mk _ _), unhide oL4, unhide OE4, hs4, unhide BB4⟩
          case measure => simp [intOf]; omega
        · have hk3 : k = 3 := by omega
          subst hk3
          have hLt : L.take 3 = L := List.take_of_length_le (by omega)
          rw [hLt]
          clear hlt hk
          have oE' : wr.ownsRow (w2.heap.size + 1) 3 1 u6 4 (iv (farsL L 3)) := oE
          obtain ⟨ge, ce, rfl⟩ : ∃ ge ce, u6 = .slice (some ⟨ge, 0, none⟩) 4 ce := ownsRow_succ oE'
          clear oE
          have oE := oE'
          clear oE'
          obtain ⟨F, hF⟩ : ∃ F : ByteArray, F = ⟨(catL L).toArray⟩ := ⟨_, rfl⟩
          have hFs : F.size ≤ 1000 := by rw [hF]; exact hln
          have hFd : F.data.toList = catL L := by rw [hF]
          have hFz : F.size = (catL L).length := by rw [hF]; rfl
          rw [← hF]
          obtain ⟨ua1, ua2, ua3⟩ := un_all hok (show (catL L).length ≤ 20000 by omega)
          have qU := impl_Unframe_any F wr (by omega) ((unhide HT).below (unhide hbw))
          unfold UnLeft at qU
          rw [hFd, ua1, ua2, ua3, ← hFz, hL3] at qU
          have QU := hide qU
          have UC := hide (fun K (hK : K ≤ F.size) => un_cut hok K (by rw [List.length_take, ← hFz]; omega))
          have HD := hide hFd
          have OLk := hide oL
          have OEk := hide oE
          have BR := hide hbel
          clear qU ua1 ua2 ua3 hok hln hF hFd hFz hLt oL oE hbel
          go_wp2_with fail
          refine (unhide QU).mono ?_
          rintro e w5 ⟨v5, rfl, o5, hb5⟩
          have oL5 := hide (own_below (unhide OLk) hb5)
          have oE5 := hide (own_below (unhide OEk) hb5)
          have B5 := hide ((unhide BR).trans (hb5.mono (by omega)))
          have B5w := hide (below2 (unhide hbw) hb5)
          have hs5 : w2.heap.size + 1 ≤ w5.heap.size := Nat.le_trans hsz hb5.size
          have O5 := hide o5
          clear QU hb5 o5 OLk OEk BR hbw
          go_wp2_with fail
          refine (sameTexts_same L v5 _ _ _ 3 w5 hL3.symm (by omega) (unhide O5) (unhide oL5)).mono ?_
          rintro e w6 ⟨rfl, q, rfl⟩
          obtain ⟨K, hK⟩ : ∃ K, K = p0 % (F.size + 1) := ⟨_, rfl⟩
          have hKl : K ≤ F.size := by have := Nat.mod_lt p0 (show 0 < F.size + 1 by omega); omega
          have hKe : (p0 : Int) % ((F.size : Int) + 1) = (K : Int) := by rw [hK]; simp
          clear hK
          have pc := unhide PC (w5.drewN q) (below_drewN (below2 (unhide B2) (unhide B5)) q)
          go_wp2_with fail
          rw [hKe]
          obtain ⟨m, um1, um2, um3, um4, um5, um6⟩ := unhide UC K hKl
          rw [hL3] at um1 um6
          have hxd : (F.extract 0 K).data.toList = (catL L).take K := by rw [Lib.extract_data, ← unhide HD]; simp
          have qV := impl_Unframe_any (F.extract 0 K) (w5.drewN q) (by rw [ByteArray.size_extract]; omega) ((unhide HT).below (below_drewN (unhide B5w) q))
          unfold UnLeft at qV
          rw [hxd, um2, um3, um4] at qV
          refine qV.mono ?_
          rintro e w7 ⟨v7, rfl, o7, hb7⟩
          obtain ⟨xa, xc, rfl⟩ : ∃ xa xc, v7 = .slice xa m xc := by
            rcases o7.2 with ⟨h, h0⟩ | ⟨g, c, cur, h, _⟩
            · exact ⟨none, 0, by rw [h0]; exact h⟩
            · exact ⟨_, _, h⟩
          have oL7 := own_below (w := w5.drewN q) (unhide oL5) hb7
          have oE7 := own_below (w := w5.drewN q) (unhide oE5) hb7
          have ot7 := own_take (m := m) oL7 um1
          have et7 : (strs L).take m = strs (L.take m) := by unfold strs; rw [List.map_take]
          rw [et7] at ot7
          have cm : w7.cell? ⟨ge, m, none⟩ = some (.int .i64 (farL L m : Int)) := by
            rw [oE7.cellAt m (by omega)]
            unfold iv
            rw [List.getElem?_map, farsL_get (by omega)]
            rfl
          have cm1 : m < 3 → w7.cell? ⟨ge, m + 1, none⟩ = some (.int .i64 (farL L (m + 1) : Int)) := fun h => by
            rw [oE7.cellAt (m + 1) (by omega)]
            unfold iv
            rw [List.getElem?_map, farsL_get (by omega)]
            rfl
          have qS := hide (sameTexts_same (L.take m) (.slice xa m xc) (.slice (some ⟨w2.heap.size, 0, none⟩) m 3) _ _ m w7 (by rw [List.length_take]; omega) (by omega) o7 ot7)
          have B7 := hide (below2 (below_drewN (unhide B5w) q) hb7)
          have dm : decide ((m : Int) ≤ 3) = true := by simp; omega
          have dK : decide ((farL L m : Int) ≤ (K : Int)) = true := by simp; omega
          have i0m : (0 : Int) ≤ (m : Int) := by omega
          have i1m : (m : Int) < 4 := by omega
          have i2m : (m : Int) ≤ 3 := by omega
          clear qV o7 hb7 oL7 oE7 ot7 et7 um2 um3 um4 UC hxd
          by_cases hm3 : m = 3
          · subst hm3
            clear dm i0m i1m i2m cm1 um6
            go_wp2_with (go_at_call 11; refine (unhide qS).mono ?_; rintro e w8 ⟨rfl, q8, rfl⟩)
            go_ret
            exact ⟨rfl, below_drewN (unhide B7) _⟩
          · have e3 : ((m : Int) == 3) = false := by rw [beq_eq_false_iff_ne]; omega
            have c1 := cm1 (by omega)
            have i3m : (m : Int) + 1 < 4 := by omega
            have i4m : (0 : Int) ≤ (m : Int) + 1 := by omega
            have dE := hide (show decide (K < farL L (m + 1)) = true by simp; omega)
            have c1q := fun n => (show (w7.drewN n).cell? ⟨ge, m + 1, none⟩ = some (.int .i64 (farL L (m + 1) : Int)) from c1)
            go_wp2_with (go_at_call 11; refine (unhide qS).mono ?_; rintro e w8 ⟨rfl, q8, rfl⟩)
            go_ret
            refine ⟨?_, below_drewN (unhide B7) _⟩
            rw [unhide dE]
            rfl

theorem frames_big (len cap : Nat) (a : Option Addr) (w : World) (h1 : 1048576 < len) (h2 : len ≤ 9223372036854775807) :
    Calls Tryd.prog 3 #[.slice a len cap] w fun e w' => e = .returned (.bool true) ∧ Below w.heap.size w w' := by
  have q0 := bigF_any len cap a w h2
  have hd : decide ((1048576 : Int) < (len : Int)) = true := by simp; omega
  rw [hd] at q0
  have Q := hide q0
  clear q0 hd h1 h2
  go_enter Tryd.func3, Tryd.ntmps3
  go_wp2_with (go_at_call 6; refine (unhide Q).mono ?_; rintro e w0 ⟨rfl, hw⟩; subst w0)
  go_ret
  exact ⟨rfl, Below.refl _ _⟩
end Go.Proofs.YtnlcknklghalkaaDoor
