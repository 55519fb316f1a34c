/- What the power leaves, left to it again: nothing more is lost. Nothing of the program stands here. -/
import Derived.Test.YtipmbfjcgmchkaaLosePlain
import Derived.Test.YtipmbfjcgmchkaaActPlain
namespace Go.Proofs.Ytipmbfjcgmchkaa.Plain
set_option linter.unusedVariables false

theorem keepN_ge {f : Fl} {x : Int} : f.kept ≤ keepN f x := by unfold keepN; omega
theorem loseTo_get {l : List Fl} {left : List Int} {n k : Nat} {f : Fl} (h : l[k]? = some f) (hk : k < n) : (loseTo l left n)[k]? = some (loseF f (left.getD k 0)) := by
  unfold loseTo
  rw [List.getElem?_map, List.getElem?_range hk, Option.map_some]
  have : l.getD k fl0 = f := by simp [List.getD, h]
  rw [this]
theorem loseL_get {l : List Fl} {left : List Int} {k : Nat} {f : Fl} (h : l[k]? = some f) : (loseL l left)[k]? = some (loseF f (left.getD k 0)) := loseTo_get h (List.getElem?_eq_some_iff.1 h).1
theorem loseL_length (l : List Fl) (left : List Int) : (loseL l left).length = l.length := loseTo_length _ _ _
theorem loseL_back {l : List Fl} {left : List Int} {k : Nat} {g : Fl} (h : (loseL l left)[k]? = some g) : ∃ f, l[k]? = some f ∧ g = loseF f (left.getD k 0) := by
  have hk : k < l.length := by have := (List.getElem?_eq_some_iff.1 h).1; rwa [loseL_length] at this
  have h1 := List.getElem?_eq_getElem hk
  refine ⟨_, h1, ?_⟩
  rw [loseL_get h1] at h
  exact (Option.some.inj h).symm
theorem loseF_size {f : Fl} {x : Int} (h0 : 0 ≤ f.kept) (h1 : f.kept ≤ (f.text.size : Int)) : ((loseF f x).text.size : Int) = (loseF f x).kept := by
  have hb := keepN_bounds (x := x) h0 h1
  show (((f.text.extract 0 (keepN f x).toNat).size : Nat) : Int) = keepN f x
  rw [ByteArray.size_extract]
  omega
theorem loseF_right {f : Fl} {x : Int} (h : fileB f = true) : fileB (loseF f x) = true := by
  obtain ⟨p1, p2, p3, p4⟩ := fileB_parts h
  have hs := loseF_size (x := x) p3 p4
  have hb := keepN_bounds (x := x) p3 p4
  have hk : (loseF f x).kept = keepN f x := rfl
  have hn : (loseF f x).name = f.name := rfl
  generalize loseF f x = g at hs hk hn ⊢
  obtain ⟨gn, gt, gk⟩ := g
  simp only at hs hk hn
  subst hn
  exact fileB_mk.2 ⟨p1, by omega, by omega, by omega⟩
theorem loseL_right {l : List Fl} (left : List Int) (h : DiskR l) : DiskR (loseL l left) := by
  refine ⟨by rw [loseL_length]; exact h.1, fun i f hf => ?_⟩
  obtain ⟨g, hg, rfl⟩ := loseL_back hf
  refine ⟨loseF_right (h.2 i g hg).1, fun j p hj hp => ?_⟩
  obtain ⟨q, hq, rfl⟩ := loseL_back hp
  exact (h.2 i g hg).2 j q hj hq
theorem loseL_kept {l : List Fl} {left : List Int} (h : DiskR l) : ∀ f ∈ loseL l left, (f.text.size : Int) ≤ f.kept := by
  intro f hf
  obtain ⟨i, hi, rfl⟩ := List.getElem_of_mem hf
  obtain ⟨g, hg, he⟩ := loseL_back (List.getElem?_eq_getElem hi)
  rw [he]
  obtain ⟨p1, p2, p3, p4⟩ := fileB_parts (h.2 i g hg).1
  rw [loseF_size p3 p4]
  exact Int.le_refl _
theorem loseF_again {f : Fl} {x : Int} (h0 : 0 ≤ f.kept) (h1 : f.kept = (f.text.size : Int)) : loseF f x = f := by
  obtain ⟨n, t, k⟩ := f
  simp only at h0 h1
  subst h1
  have hk : keepN ⟨n, t, (t.size : Int)⟩ x = (t.size : Int) := by unfold keepN; simp only; omega
  unfold loseF
  rw [hk]
  simp
theorem loseL_again {l : List Fl} {left more : List Int} (h : DiskR l) : loseL (loseL l left) more = loseL l left := by
  apply List.ext_getElem?
  intro i
  cases hi : (loseL l left)[i]? with
  | none =>
    rw [List.getElem?_eq_none]
    rw [loseL_length]
    exact List.getElem?_eq_none_iff.1 hi
  | some f =>
    rw [loseL_get hi]
    obtain ⟨g, hg, rfl⟩ := loseL_back hi
    obtain ⟨p1, p2, p3, p4⟩ := fileB_parts (h.2 i g hg).1
    have hs := loseF_size (x := left.getD i 0) p3 p4
    have hb := keepN_bounds (x := left.getD i 0) p3 p4
    rw [loseF_again hb.1 hs.symm]
theorem lostL_is {l : List Fl} (left : List Int) (h : DiskR l) : lostL l left = loseL l left := by unfold lostL; rw [diskB_yes h]; rfl
/-- A beginning of a text. -/
def begB (a b : ByteArray) : Prop := a.size ≤ b.size ∧ b.extract 0 a.size = a
theorem beg_lost {f : Fl} {x : Int} (h0 : 0 ≤ f.kept) (h1 : f.kept ≤ (f.text.size : Int)) : begB (loseF f x).text f.text ∧ begB (f.text.extract 0 f.kept.toNat) (loseF f x).text := by
  have hb := keepN_bounds (x := x) h0 h1
  have hg := keepN_ge (f := f) (x := x)
  have hs := loseF_size (x := x) h0 h1
  have hk : (loseF f x).kept = keepN f x := rfl
  have ht : (loseF f x).text = f.text.extract 0 (keepN f x).toNat := rfl
  have hn : (loseF f x).text.size = (keepN f x).toNat := by omega
  have hm : (f.text.extract 0 f.kept.toNat).size = f.kept.toNat := by rw [ByteArray.size_extract]; omega
  refine ⟨⟨by omega, by rw [hn, ht]⟩, by omega, ?_⟩
  rw [hm, ht, ByteArray.extract_extract]
  congr 1
  omega
end Go.Proofs.Ytipmbfjcgmchkaa.Plain
