/- InverseOf: squareOf and InverseOf of the program. -/
import Derived.Test.YtekhjoenejgmaaaRd8
import Derived.Test.YtekhjoenejgmaaaSn
import Derived.Test.YtekhjoenejgmaaaTra
namespace Go.Proofs.Ytekhjoenejgmaaa
open Go.RowKit Go.Deep Go.Joins
set_option linter.unusedVariables false

/-- An element of a row is stored. -/
theorem OwnI.puti {W : World} {base g n cap j : Nat} {r : Nat → Int} (h : OwnI W base (.slice (some ⟨g, 0, none⟩) n cap) (rowOf n r)) (v : Int) :
    OwnI (W.setCell ⟨g, j, none⟩ (.int .i64 v)) base (.slice (some ⟨g, 0, none⟩) n cap) (rowOf n (fun t => if t = j then v else r t)) := by
  have h' : W.ownsRow base 2 1 (.slice (some ⟨g, 0, none⟩) n cap) (rowOf n r).length (vals (rowOf n r)) := h
  rw [rowOf_len] at h'
  obtain ⟨h1, h2⟩ := World.ownsRow.stored h' j (.int .i64 v)
  have e : (rowOf n r).set j v = rowOf n (fun t => if t = j then v else r t) := by
    refine ext_nth (by simp [rowOf]) fun i hi => ?_
    have hi' : i < n := by simpa [rowOf] using hi
    rw [rowOf_at _ _ hi', nth_lt hi]
    by_cases e : i = j
    · subst e; simp
    · rw [List.getElem_set_ne (fun q => e q.symm), if_neg e]; simp [rowOf]
  rw [vals_set, e] at h1
  unfold OwnI
  rw [rowOf_len]
  exact h1
theorem made_own (W : World) (n : Nat) (hn : n ≤ 1000) : OwnI (W.alloc (.cells (madeCells #[.int .i64 0] n) 2)) W.heap.size (.slice (some ⟨W.heap.size, 0, none⟩) n n) (rowOf n fun _ => 0) := by
  unfold OwnI
  rw [rowOf_len]
  refine ⟨by simp [vals, rowOf], .inr ⟨W.heap.size, n, madeCells #[.int .i64 0] n, rfl, Nat.le_refl _, World.alloc_heap_new _ _, Nat.le_refl _, by unfold maxLen; omega, by rw [size_madeCells]; omega, ?_⟩⟩
  rw [Nat.mul_one, List.take_of_length_le (by rw [Array.length_toList, size_madeCells]; omega)]
  refine List.ext_getElem (by simp [madeCells, vals, rowOf]) fun i h1 h2 => ?_
  simp [madeCells, vals, rowOf, Nat.mod_one]
/-- A row of the unit matrix. -/
theorem unit_own (W : World) (n k : Nat) (hn : n ≤ 1000) (hk : k < n) : OwnI ((W.alloc (.cells (madeCells #[.int .i64 0] n) 2)).setCell ⟨W.heap.size, k, none⟩ (.int .i64 1)) W.heap.size (.slice (some ⟨W.heap.size, 0, none⟩) n n) (unitL n k) :=
  (made_own W n hn).puti 1

noncomputable def sqCode (p c : Int) (z : List (List Int)) : Int := if tell (MatOk p c z) = true then (if tell (c = (z.length : Int)) = true then 0 else 2) else 1
def InOk (p c : Int) (z : List (List Int)) : Prop := MatOk p c z ∧ c = (z.length : Int) ∧ InvM p z.length z
noncomputable def inSel {α : Type} (p c : Int) (z : List (List Int)) (bad ok : α) : α := if tell (InOk p c z) = true then ok else bad
noncomputable def inCode (p c : Int) (z : List (List Int)) : Int := if sqCode p c z = 0 then (if tell (InvM p z.length z) = true then 0 else 4) else sqCode p c z
theorem sq_one {p c : Int} {z : List (List Int)} (h : ¬ MatOk p c z) : sqCode p c z = 1 := by unfold sqCode; rw [tell_false h]; rfl
theorem sq_two {p c : Int} {z : List (List Int)} (h : MatOk p c z) (k : ¬ c = (z.length : Int)) : sqCode p c z = 2 := by unfold sqCode; rw [tell_true h, tell_false k]; rfl
theorem sq_ok {p c : Int} {z : List (List Int)} (h : MatOk p c z) (k : c = (z.length : Int)) : sqCode p c z = 0 := by unfold sqCode; rw [tell_true h, tell_true k]; rfl
theorem in_sq {p c : Int} {z : List (List Int)} (h : sqCode p c z ≠ 0) : inCode p c z = sqCode p c z ∧ ∀ (α : Type) (b o : α), inSel p c z b o = b := by
  refine ⟨by unfold inCode; rw [if_neg h], fun α b o => ?_⟩
  unfold inSel
  rw [tell_false fun k => h (sq_ok k.1 k.2.1)]; rfl
theorem in_no {p c : Int} {z : List (List Int)} (h : sqCode p c z = 0) (k : ¬ InvM p z.length z) : inCode p c z = 4 ∧ ∀ (α : Type) (b o : α), inSel p c z b o = b := by
  refine ⟨by unfold inCode; rw [if_pos h, tell_false k]; rfl, fun α b o => ?_⟩
  unfold inSel
  rw [tell_false fun q => k q.2.2]; rfl
theorem in_yes {p c : Int} {z : List (List Int)} (h : MatOk p c z) (h2 : c = (z.length : Int)) (k : InvM p z.length z) : inCode p c z = 0 ∧ ∀ (α : Type) (b o : α), inSel p c z b o = o := by
  refine ⟨by unfold inCode; rw [if_pos (sq_ok h h2), tell_true k]; rfl, fun α b o => ?_⟩
  unfold inSel
  rw [tell_true (show InOk p c z from ⟨h, h2, k⟩)]; rfl
theorem sq_cases {p c : Int} {z : List (List Int)} (h : sqCode p c z = 0) : MatOk p c z ∧ c = (z.length : Int) := by
  by_cases h1 : MatOk p c z
  · by_cases h2 : c = (z.length : Int)
    · exact ⟨h1, h2⟩
    · rw [sq_two h1 h2] at h; cases h
  · rw [sq_one h1] at h; cases h
theorem sq_bad {p c : Int} {z : List (List Int)} (h : sqCode p c z ≠ 0) : sqCode p c z = 1 ∨ sqCode p c z = 2 := by
  by_cases h1 : MatOk p c z
  · by_cases h2 : c = (z.length : Int)
    · exact absurd (sq_ok h1 h2) h
    · exact .inr (sq_two h1 h2)
  · exact .inl (sq_one h1)
theorem invZ_len (p : Int) (n : Nat) (z : List (List Int)) : (invZ p n z).length = n := by simp [invZ]
theorem invZ_at {p : Int} {n : Nat} {z : List (List Int)} {i : Nat} (h : i < n) : nthL (invZ p n z) i = solZ p n (turned z n) (unitL n i) := by
  rw [nthL_lt (by rw [invZ_len]; exact h)]; simp [invZ]
theorem inv_small (p c : Int) (z : List (List Int)) : Small2 (inSel p c z [] (invZ p z.length z)) := by
  unfold inSel
  split
  · next q =>
    have hm := (of_tell q).1
    have h20 := hm.2.2.1
    refine ⟨by rw [invZ_len]; omega, fun r hr => ?_⟩
    rw [invZ_len] at hr
    rw [invZ_at hr, solZ_len]
    omega
  · exact ⟨by simp, fun r hr => absurd hr (Nat.not_lt_zero _)⟩

structure GivesSq (W : World) (p c : Int) (z : List (List Int)) (e : Ending) (w' : World) : Prop where
  val : ∃ ga gn gc gx gy us, e = .returned (.tuple #[.agg #[.slice ga gn gc, .int .i64 gx, .int .i64 gy], .int .i64 (sqCode p c z)]) ∧ (sqCode p c z = 0 → gx = p ∧ gy = c ∧ gn = z.length ∧ OwnG w' W.heap.size p (.slice ga gn gc) us z)
  below : Below W.heap.size W w'
set_option maxRecDepth 100000 in
set_option maxHeartbeats 2000000 in
theorem squareOf_any (p c : Int) (a : Option Addr) (z : List (List Int)) (ca : Nat) (w : World) (hr : Rows2 w a z) (hl : Lens z) :
    Calls Try.prog 89 #[.agg #[.int .i64 p, .int .i64 c, .slice a z.length ca]] w (GivesSq w p c z) := by
  have HR := Lib.hid hr
  have HL := Lib.hid hl
  clear hr hl
  go_enter Try.func89, Try.ntmps89
  go_wp2_with fail
  have hb2 := ((Below.refl w.heap.size w).alloc (Nat.le_refl _) (.cells #[.int .i64 p, .int .i64 c, .slice a z.length ca] 31)).alloc (by simp) (.cells #[.slice none 0 0, .int .i64 0, .int .i64 0] 78)
  have hx : Boxes ((w.alloc (.cells #[.int .i64 p, .int .i64 c, .slice a z.length ca] 31)).alloc (.cells #[.slice none 0 0, .int .i64 0, .int .i64 0] 78)) w.heap.size 31 #[.int .i64 p, .int .i64 c, .slice a z.length ca] := Boxes.step (World.alloc_heap_new w _) (al_b _ _)
  have hy : Boxes ((w.alloc (.cells #[.int .i64 p, .int .i64 c, .slice a z.length ca] 31)).alloc (.cells #[.slice none 0 0, .int .i64 0, .int .i64 0] 78)) (w.heap.size + 1) 78 #[.slice none 0 0, .int .i64 0, .int .i64 0] := by
    have : Boxes ((w.alloc (.cells #[.int .i64 p, .int .i64 c, .slice a z.length ca] 31)).alloc (.cells #[.slice none 0 0, .int .i64 0, .int .i64 0] 78)) (w.alloc (.cells #[.int .i64 p, .int .i64 c, .slice a z.length ca] 31)).heap.size 78 #[.slice none 0 0, .int .i64 0, .int .i64 0] := World.alloc_heap_new _ _
    simp only [World.size_alloc] at this
    exact this
  have hs2 : ((w.alloc (.cells #[.int .i64 p, .int .i64 c, .slice a z.length ca] 31)).alloc (.cells #[.slice none 0 0, .int .i64 0, .int .i64 0] 78)).heap.size = w.heap.size + 2 := by simp
  refine (implVm_any p c a z ca _ (HR.out.below hb2 (Nat.le_refl _)) HL.out).mono ?_
  generalize ((w.alloc (.cells #[.int .i64 p, .int .i64 c, .slice a z.length ca] 31)).alloc (.cells #[.slice none 0 0, .int .i64 0, .int .i64 0] 78)) = w2 at *
  rintro e w3 ⟨rfl, hb3⟩
  have HXM := Lib.hid (hx.step hb3)
  have HXR := Lib.hid (hy.step hb3)
  have HB := Lib.hid (hb2.trans (hb3.mono (by omega)))
  have hsz3 : w.heap.size + 2 ≤ w3.heap.size := by have := hb3.size; omega
  clear hb2 hx hy hs2 hb3
  have e0 := HXR.out.m0
  have e1 := HXR.out.m1
  have e2 := HXR.out.m2
  have f0 := HXR.out.frozen 0
  have f1 := HXR.out.frozen 1
  have f2 := HXR.out.frozen 2
  have hlt := HXR.out.lt
  have d0 := HXM.out.m0
  have d1 := HXM.out.m1
  have d2 := HXM.out.m2
  have hlm := HXM.out.lt
  by_cases hm : MatOk p c z
  case neg =>
    have HT := Lib.hid (tell_false hm)
    have HC := Lib.hid (sq_one hm)
    clear hm
    rw [HT.out]
    go_wp2_with fail
    refine bodyPost_ret (v := .tuple #[.agg #[.slice none 0 0, .int .i64 0, .int .i64 0], .int .i64 1]) (by simp [results, Try.results89, go_sem, e0, e1, e2]) rfl ⟨⟨none, 0, 0, 0, 0, [], by rw [HC.out], fun h => by rw [HC.out] at h; cases h⟩, (((HB.out.setCell (p := ⟨w.heap.size + 1, 0, none⟩) (by show w.heap.size ≤ w.heap.size + 1; omega) _).setCell (p := ⟨w.heap.size + 1, 1, none⟩) (by show w.heap.size ≤ w.heap.size + 1; omega) _).setCell (p := ⟨w.heap.size + 1, 2, none⟩) (by show w.heap.size ≤ w.heap.size + 1; omega) _)⟩
  have HT := Lib.hid (tell_true hm)
  have HM := Lib.hid hm
  by_cases hc : c = (z.length : Int)
  case neg =>
    have HC := Lib.hid (sq_two hm hc)
    clear hm
    rw [HT.out]
    go_wp2_with fail
    refine bodyPost_ret (v := .tuple #[.agg #[.slice none 0 0, .int .i64 0, .int .i64 0], .int .i64 2]) (by simp [results, Try.results89, go_sem, e0, e1, e2]) rfl ⟨⟨none, 0, 0, 0, 0, [], by rw [HC.out], fun h => by rw [HC.out] at h; cases h⟩, (((HB.out.setCell (p := ⟨w.heap.size + 1, 0, none⟩) (by show w.heap.size ≤ w.heap.size + 1; omega) _).setCell (p := ⟨w.heap.size + 1, 1, none⟩) (by show w.heap.size ≤ w.heap.size + 1; omega) _).setCell (p := ⟨w.heap.size + 1, 2, none⟩) (by show w.heap.size ≤ w.heap.size + 1; omega) _)⟩
  have HC := Lib.hid (sq_ok hm hc)
  have HS := Lib.hid (matr_smf hm)
  clear hm
  subst hc
  rw [HT.out]
  go_wp2_with fail
  refine (gridOf_any p z.length a z ca w3 (HR.out.below HB.out (Nat.le_refl _)) HS.out).mono ?_
  rintro e w4 ⟨⟨v, us, rfl, hog⟩, hb4⟩
  obtain ⟨va, vc, rfl⟩ := hog.form
  have HG4 := Lib.hid hog
  replace HXR := Lib.hid (HXR.out.step hb4)
  replace HB := Lib.hid (HB.out.trans (hb4.mono (by omega)))
  clear e0 e1 e2 f0 f1 f2 hlt d0 d1 d2 hlm hog hb4
  have e0 := HXR.out.m0
  have e1 := HXR.out.m1
  have e2 := HXR.out.m2
  have f0 := HXR.out.frozen 0
  have f1 := HXR.out.frozen 1
  have f2 := HXR.out.frozen 2
  have hlt := HXR.out.lt
  go_wp2_with fail
  refine bodyPost_ret (v := .tuple #[.agg #[.slice va z.length vc, .int .i64 p, .int .i64 (z.length : Int)], .int .i64 0]) (by simp [results, Try.results89, go_sem, e0, e1, e2]) rfl ⟨⟨va, z.length, vc, p, z.length, us, by rw [HC.out], fun _ => ⟨rfl, rfl, rfl, ?_⟩⟩, (((HB.out.setCell (p := ⟨w.heap.size + 1, 0, none⟩) (by show w.heap.size ≤ w.heap.size + 1; omega) _).setCell (p := ⟨w.heap.size + 1, 1, none⟩) (by show w.heap.size ≤ w.heap.size + 1; omega) _).setCell (p := ⟨w.heap.size + 1, 2, none⟩) (by show w.heap.size ≤ w.heap.size + 1; omega) _)⟩
  have hk : ∀ t, t ≠ 78 → KeepT t _ _ := fun t ht => KeepT.set3 HXR.out ht (.slice va z.length vc) (.int .i64 p) (.int .i64 (z.length : Int))
  exact (HG4.out.keepT (hk _ (by decide)) (hk _ (by decide))).mono (by omega)
end Go.Proofs.Ytekhjoenejgmaaa
