/- Ranks by a function: ranksBy of the program; makeRoom. -/
import Derived.Test.YtdfggbojccfblaaRat
import Derived.Deep.AppendLies
import Derived.Shelf.Abstract
namespace Go.Proofs.Ytdfggbojccfblaa
open Go.RowKit Go.Deep Go.Shelf
set_option linter.unusedVariables false

/-- What tells a number of each group. -/
structure Tells (w : World) (fid : FuncId) (l r : Array Value) (n : Nat) (p : Nat → Int) : Prop where
  enters : ∀ args w, (callFunc fid args).run Try.prog w = .ok (.enter fid args) w
  calls : ∀ (x : Nat) (W : World), x < n → Below w.heap.size w W → Calls Try.prog fid (l.push (.int .u64 (x : Int)) ++ r) W fun e W' => e = .returned (.int .i64 (p x)) ∧ Quiet W W'
def numsBy (p : Nat → Int) (k : Nat) : List Int := (List.range k).map p
theorem numsBy_len (p : Nat → Int) (k : Nat) : (numsBy p k).length = k := by simp [numsBy]
theorem numsBy_succ (p : Nat → Int) (k : Nat) : numsBy p (k + 1) = numsBy p k ++ [p k] := by simp [numsBy, List.range_succ]
theorem numsBy_nth (p : Nat → Int) {k i : Nat} (h : i < k) : nth (numsBy p k) i = p i := by
  rw [nth_lt (by rw [numsBy_len]; exact h)]; simp [numsBy]
theorem Boxes.put2 {W : World} {B : Nat} {t : TypeId} {v0 v1 v2 : Value} (h : Boxes W B t #[v0, v1, v2]) (u : Value) : Boxes (W.setCell ⟨B, 2, none⟩ u) B t #[v0, v1, u] := by
  unfold Boxes at h ⊢
  simp [World.setCell, Array.getElem?_modify, h]
theorem Boxes.grown {W W' : World} {B : Nat} {t : TypeId} {vs : Array Value} {row : Option Nat} (h : Boxes W B t vs) (hg : W.grownBy W' row) (hne : row ≠ some B) : Boxes W' B t vs := (hg.block B h.lt (fun e => hne e.symm)).trans h
theorem Boxes.other {W : World} {B : Nat} {t : TypeId} {vs : Array Value} (h : Boxes W B t vs) {p : Addr} (hp : p.block ≠ B) (u : Value) : Boxes (W.setCell p u) B t vs := by
  unfold Boxes at h ⊢
  rw [Below.heap_setCell _ _ _ B (fun e => hp e.symm)]; exact h
theorem OwnI.not_at {W : World} {base n c : Nat} {a : Option Addr} {zs : List Int} (h : OwnI W base (.slice a n c) zs) {B : Nat} (hB : B < base) : (Value.slice a n c).ownBlock ≠ some B := fun e => by have := h.lt e; omega

set_option maxHeartbeats 2000000 in
set_option maxRecDepth 100000 in
theorem ranksBy_any (u : Int) (m n : Nat) (fid : FuncId) (cl cr : Array Value) (p : Nat → Int) (w : World) (hm : m ≤ 5) (hn : 2 ^ m = n) (hC : Tells w fid cl cr n p) :
    Calls Try.prog 51 #[.int .i64 (m : Nat), .int .i64 u, .func (.func fid) cl cr] w fun e w' => (∃ v, e = .returned (.agg #[.int .i64 (m : Nat), .int .i64 u, v]) ∧ OwnI w' w.heap.size v (numsBy p n)) ∧ Below w.heap.size w w' := by
  obtain ⟨i0, hi, hz0, hz1, hz2⟩ := info_parts Try.infoInt64
  have hE := hC.enters
  have HC := Lib.hid hC.calls
  have hn32 : n ≤ 32 := by rw [← hn]; exact pow5 hm
  have HN := Lib.hid hn
  clear hC hn
  go_enter Try.func51, Try.ntmps51
  go_wp2_with fail
  refine (countGroups_any m n _ hm HN.out).mono ?_
  rintro e w1' ⟨rfl, rfl⟩
  have hb1 := (Below.refl w.heap.size w).alloc (Nat.le_refl _) (.cells #[.int .i64 0, .int .i64 0, .slice none 0 0] 27)
  have hb2 := hb1.alloc (by simp) (.cells #[.int .i64 (m : Int), .int .i64 u, .slice none 0 0] 27)
  have hx := (boxes_new w #[.int .i64 0, .int .i64 0, .slice none 0 0] 27).step ((Below.refl _ _).alloc (Nat.le_refl _) (.cells #[.int .i64 (m : Int), .int .i64 u, .slice none 0 0] 27))
  have hy := boxes_new (w.alloc (.cells #[.int .i64 0, .int .i64 0, .slice none 0 0] 27)) #[.int .i64 (m : Int), .int .i64 u, .slice none 0 0] 27
  rw [World.size_alloc] at hy
  generalize (w.alloc (.cells #[.int .i64 0, .int .i64 0, .slice none 0 0] 27)).alloc (.cells #[.int .i64 (m : Int), .int .i64 u, .slice none 0 0] 27) = w2 at *
  have HB2 := Lib.hid hb2
  have HX2 := Lib.hid hx
  have HY2 := Lib.hid hy
  clear hb1 hb2 hx hy
  go_wp2_with fail
  go_loopw [14] (fun i wr => ∃ (k : Nat) (qa : Option Addr) (qc : Nat), i = .int .u64 k ∧ k ≤ n ∧ Boxes wr (w.heap.size + 1) 27 #[.int .i64 (m : Int), .int .i64 u, .slice qa k qc] ∧ OwnI wr (w.heap.size + 2) (.slice qa k qc) (numsBy p k) ∧ Boxes wr w.heap.size 27 #[.int .i64 0, .int .i64 0, .slice none 0 0] ∧ Below w.heap.size w wr)
    (fun i _ => n - (intOf i).toNat)
  case atStart => exact ⟨0, none, 0, rfl, Nat.zero_le _, HY2.out, OwnI.nil _ _, HX2.out, HB2.out⟩
  case round =>
    obtain ⟨k, qa, qc, rfl, hk, hbx, hown, hbz, hbel⟩ := hrel
    have HBX := Lib.hid hbx
    have HOW := Lib.hid hown
    have HBZ := Lib.hid hbz
    have HBL := Lib.hid hbel
    have hsz := hbx.lt
    by_cases hlt : k < n
    · have hi0 : (k : Int) < (n : Int) := by omega
      have z2 := hbx.m2
      have HCK := Lib.hid (fun W hW => HC.out k W hlt hW)
      clear hbx hown hbz hbel HX2 HY2 HB2
      generalize hv : p k = v at *
      have HV := Lib.hid hv
      clear hv
      go_wp2_with fail
      go_region_law (first
        | (go_simp; refine (HCK.out _ (by first | exact HBL.out | exact HBL.out.drew)).mono ?_; rintro e w6 ⟨rfl, hq6⟩; have HB6 := Lib.hid (show Below w.heap.size w w6 by first | exact chain HBL.out (quiet_below hq6) | exact chain HBL.out.drew (quiet_below hq6)); have HX6 := Lib.hid (show Boxes w6 (w.heap.size + 1) 27 #[.int .i64 (m : Int), .int .i64 u, .slice qa k qc] by first | exact HBX.out.quiet hq6 | exact (HBX.out.step (drew_step _)).quiet hq6); have HO6 := Lib.hid (show OwnI w6 (w.heap.size + 2) (.slice qa k qc) (numsBy p k) by first | exact HOW.out.step (quiet_below hq6) | exact (HOW.out.step (drew_step _)).step (quiet_below hq6)); have HZ6 := Lib.hid (show Boxes w6 w.heap.size 27 #[.int .i64 0, .int .i64 0, .slice none 0 0] by first | exact HBZ.out.quiet hq6 | exact (HBZ.out.step (drew_step _)).quiet hq6); have y2 := HX6.out.m2; have yl := HX6.out.lt)
        | (refine step_append_lies _ (by rfl) _ _ 22 (by rfl) (w.heap.size + 2) 2 i0 (.int .i64 0) 1 8 Try.underlying22 hi hz0 hz1 hz2 (by rfl) (by decide) (.slice qa k qc) k (vals (numsBy p k)) (by first | rfl | simp [Act.eval]) (by have := HO6.out; unfold OwnI at this; rw [numsBy_len] at this; exact World.ownsRow.alloc this _) ⟨w6.heap.size, 0, none⟩ 1 1 [.int .i64 v] (by first | rfl | simp [Act.eval]) (by rfl) (by first | exact cell_one_new _ _ _ | (intro j u hj; exact cell_one_new w6 _ _ j u hj)) (by simp [Value.oneCell']) (by decide) (by unfold maxLen; omega) (by omega) (by simp; omega) _ rfl ?_; intro g cap w8 hown8 hgrow8 hat8 hlt8; have HX8 := Lib.hid ((HX6.out.step ((Below.refl _ _).alloc (Nat.le_refl _) (.cells #[.int .i64 v] 2))).grown hgrow8 (HO6.out.not_at (by omega))); have HZ8 := Lib.hid ((HZ6.out.step ((Below.refl _ _).alloc (Nat.le_refl _) (.cells #[.int .i64 v] 2))).grown hgrow8 (HO6.out.not_at (by omega))); have HB8 := Lib.hid ((HB6.out.alloc HB6.out.size (.cells #[.int .i64 v] 2)).grown hgrow8 (by have := HB6.out.size; simp; omega) (fun q hq => by have := (HO6.out.lt hq).1; omega)); have x2 := HX8.out.m2; have xf := HX8.out.frozen 2; have xl := HX8.out.lt))
      all_goals (
        have HO9 := Lib.hid (show OwnI (w8.setCell ⟨w.heap.size + 1, 2, none⟩ (.slice (some ⟨g, 0, none⟩) (k + 1) cap)) (w.heap.size + 2) (.slice (some ⟨g, 0, none⟩) (k + 1) cap) (numsBy p (k + 1)) by
          refine OwnI.setCell2 ?_ (by show w.heap.size + 1 < w.heap.size + 2; omega) _
          unfold OwnI; rw [numsBy_len, numsBy_succ, vals_snoc, HV.out]; exact hown8)
        have HX9 := Lib.hid (HX8.out.put2 (.slice (some ⟨g, 0, none⟩) (k + 1) cap))
        have HZ9 := Lib.hid (HZ8.out.other (p := ⟨w.heap.size + 1, 2, none⟩) (by show w.heap.size + 1 ≠ w.heap.size; omega) (.slice (some ⟨g, 0, none⟩) (k + 1) cap))
        have HB9 := Lib.hid (HB8.out.setCell (p := ⟨w.heap.size + 1, 2, none⟩) (by show w.heap.size ≤ w.heap.size + 1; omega) (.slice (some ⟨g, 0, none⟩) (k + 1) cap))
        clear hown8 hgrow8 hat8 hlt8 x2 xf xl
        go_wp2_with fail
        go_roundw
        case rel => exact ⟨k + 1, some ⟨g, 0, none⟩, cap, by go_num, by omega, HX9.out, HO9.out, HZ9.out, HB9.out⟩
        case measure => simp [intOf]; omega)
    · have hi0 : ¬ (k : Int) < (n : Int) := by omega
      have HKN := Lib.hid (show k = n by omega)
      have z0 := hbx.m0
      have z1 := hbx.m1
      have z2 := hbx.m2
      have r0 := hbz.m0
      have r1 := hbz.m1
      have r2 := hbz.m2
      have f0 := hbz.frozen 0
      have f1 := hbz.frozen 1
      have f2 := hbz.frozen 2
      have hszz := hbz.lt
      clear hbx hown hbz hbel HX2 HY2 HB2
      go_wp2_with fail
      refine bodyPost_ret (v := .agg #[.int .i64 (m : Int), .int .i64 u, .slice qa k qc]) (by simp [results, Try.results51, go_sem, r0, r1, r2]) rfl ⟨⟨_, rfl, ?_⟩, ?_⟩
      · have := HOW.out
        rw [HKN.out] at this ⊢
        exact ((((this.setCell2 (p := ⟨w.heap.size, 0, none⟩) (by show w.heap.size < w.heap.size + 2; omega) _).setCell2 (p := ⟨w.heap.size, 1, none⟩) (by show w.heap.size < w.heap.size + 2; omega) _).setCell2 (p := ⟨w.heap.size, 2, none⟩) (by show w.heap.size < w.heap.size + 2; omega) _)).mono (Nat.le_add_right _ 2)
      · exact ((HBL.out.setCell (p := ⟨w.heap.size, 0, none⟩) (Nat.le_refl _) _).setCell (p := ⟨w.heap.size, 1, none⟩) (Nat.le_refl _) _).setCell (p := ⟨w.heap.size, 2, none⟩) (Nat.le_refl _) _
end Go.Proofs.Ytdfggbojccfblaa
