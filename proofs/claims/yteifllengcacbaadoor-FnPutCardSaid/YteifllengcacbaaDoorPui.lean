/- PutFamily, the program's. -/
import Derived.Test.YteifllengcacbaaDoorPuk
import Derived.Test.YteifllengcacbaaDoorPuc
import Derived.Deep.RegionHeld3
import Derived.Deep.CutRange
namespace Go.Proofs.YteifllengcacbaaDoor
open Go.RowKit Go.Deep Go.Shelf
set_option linter.unusedVariables false

theorem al (w : World) (o : Obj) : Below w.heap.size w (w.alloc o) := (Below.refl _ _).alloc (Nat.le_refl _) o
theorem nbC {r q : Nat} {X W : World} {v : Value} (hk : KeepsBut r X W) (hx : X.cell? ⟨q, 0, none⟩ = some v) (hr : q ≠ r) : W.cell? ⟨q, 0, none⟩ = some v :=
  (World.cell?_of_block (a := ⟨q, 0, none⟩) (hk q (World.block_lt_of_cell? _ _ hx) hr)).trans hx
theorem nbF {r q : Nat} {X W : World} {v : Value} (hk : KeepsBut r X W) (hx : X.cell? ⟨q, 0, none⟩ = some v) (hr : q ≠ r) (hf : X.frozen? ⟨q, 0, none⟩ = false) : W.frozen? ⟨q, 0, none⟩ = false :=
  (World.frozen?_of_block (a := ⟨q, 0, none⟩) (hk q (World.block_lt_of_cell? _ _ hx) hr)).trans hf
/-- A box that holds no table yet. -/
structure NoTab (W : World) (q : Nat) : Prop where
  c : W.cell? ⟨q, 0, none⟩ = some (.pointer none)
  f : W.frozen? ⟨q, 0, none⟩ = false
theorem NoTab.lt {W : World} {q : Nat} (h : NoTab W q) : q < W.heap.size := World.block_lt_of_cell? _ _ h.c
theorem NoTab.new (W : World) (t : TypeId) : NoTab (W.alloc (.cells #[.pointer none] t)) W.heap.size := ⟨by simp [go_sem], by simp [go_sem]⟩
theorem NoTab.new2 (W : World) (o : Obj) (t : TypeId) : NoTab ((W.alloc o).alloc (.cells #[.pointer none] t)) (W.heap.size + 1) := by
  have := NoTab.new (W.alloc o) t
  simpa using this
theorem NoTab.step {W W' : World} {q : Nat} (h : NoTab W q) (hb : Below W.heap.size W W') : NoTab W' q := ⟨cell_step hb h.c, (hb.frozen (p := ⟨q, 0, none⟩) h.lt).trans h.f⟩
theorem NoTab.kept {r q : Nat} {X W : World} (h : NoTab X q) (hk : KeepsBut r X W) (hr : r < q) : NoTab W q := ⟨nbC hk h.c (by omega), nbF hk h.c (by omega) h.f⟩
theorem pu_aa (Z : World) (u v : Option Addr) (t t' : TypeId) :
    ((Z.alloc (.cells #[.pointer u] t)).alloc (.cells #[.pointer v] t')).cell? ⟨Z.heap.size, 0, none⟩ = some (.pointer u) ∧ ((Z.alloc (.cells #[.pointer u] t)).alloc (.cells #[.pointer v] t')).cell? ⟨Z.heap.size + 1, 0, none⟩ = some (.pointer v) ∧
      ∀ h zss x, HasTab h zss x Z → HasTab h zss x ((Z.alloc (.cells #[.pointer u] t)).alloc (.cells #[.pointer v] t')) :=
  ⟨by simp [go_sem], by simp [go_sem], fun _ _ _ k => (k.step (al _ _)).step (al _ _)⟩
theorem pu_sa (Z : World) (q : Nat) (u v : Option Addr) (t : TypeId) (c : NoTab Z q) :
    ((Z.setCell ⟨q, 0, none⟩ (.pointer u)).alloc (.cells #[.pointer v] t)).cell? ⟨q, 0, none⟩ = some (.pointer u) ∧ ((Z.setCell ⟨q, 0, none⟩ (.pointer u)).alloc (.cells #[.pointer v] t)).cell? ⟨Z.heap.size, 0, none⟩ = some (.pointer v) ∧
      ∀ h zss x, HasTab h zss x Z → HasTab h zss x ((Z.setCell ⟨q, 0, none⟩ (.pointer u)).alloc (.cells #[.pointer v] t)) := by
  have hs : (Z.setCell ⟨q, 0, none⟩ (.pointer u)).heap.size = Z.heap.size := by simp
  refine ⟨cell_step (al _ _) (World.cell?_setCell_same _ _ _ c.c), ?_, fun _ _ _ k => (k.set c.c _).step (al _ _)⟩
  have : ((Z.setCell ⟨q, 0, none⟩ (.pointer u)).alloc (.cells #[.pointer v] t)).cell? ⟨(Z.setCell ⟨q, 0, none⟩ (.pointer u)).heap.size, 0, none⟩ = some (.pointer v) := by simp [go_sem]
  rw [hs] at this
  exact this
theorem pu_ss (Z : World) (q q' : Nat) (u v : Option Addr) (c : NoTab Z q) (c' : NoTab Z q') (hne : q ≠ q') :
    ((Z.setCell ⟨q, 0, none⟩ (.pointer u)).setCell ⟨q', 0, none⟩ (.pointer v)).cell? ⟨q, 0, none⟩ = some (.pointer u) ∧ ((Z.setCell ⟨q, 0, none⟩ (.pointer u)).setCell ⟨q', 0, none⟩ (.pointer v)).cell? ⟨q', 0, none⟩ = some (.pointer v) ∧
      ∀ h zss x, HasTab h zss x Z → HasTab h zss x ((Z.setCell ⟨q, 0, none⟩ (.pointer u)).setCell ⟨q', 0, none⟩ (.pointer v)) := by
  have d10 : (Z.setCell ⟨q, 0, none⟩ (.pointer u)).cell? ⟨q', 0, none⟩ = some (.pointer none) := by
    rw [World.cell?_setCell_other _ _ _ _ (by simp <;> omega)]; exact c'.c
  have d9 : (Z.setCell ⟨q, 0, none⟩ (.pointer u)).cell? ⟨q, 0, none⟩ = some (.pointer u) := World.cell?_setCell_same _ _ _ c.c
  refine ⟨?_, World.cell?_setCell_same _ _ _ d10, fun _ _ _ k => (k.set c.c _).set d10 _⟩
  rw [World.cell?_setCell_other _ _ _ _ (by simp <;> omega)]; exact d9
theorem tab_at {m : Nat} {zss : List (List Int)} (h7 : m ≤ 7) {x : Nat} (hx : x < 2 ^ m) : tabOf (m : Int) zss x = tblAt zss zss.length x := by
  unfold tabOf; rw [Int.toNat_natCast]; exact seenBy_all h7 _ hx

set_option maxHeartbeats 4000000 in
set_option maxRecDepth 100000 in
theorem implPu_any (h1 : Int) (a1 : Option Addr) (z1 : List (List Int)) (c1 : Nat) (j : Int) (h2 : Int) (a2 : Option Addr) (z2 : List (List Int)) (c2 : Nat) (w : World) (hr1 : Rows2 w a1 z1) (hs1 : Small2 z1) (hr2 : Rows2 w a2 z2) (hs2 : Small2 z2) :
    Calls Tryd.prog 32 #[.agg #[.int .i64 h1, .slice a1 z1.length c1], .int .i64 j, .agg #[.int .i64 h2, .slice a2 z2.length c2]] w (GivesFO w (putOf h1 z1 j h2 z2)) := by
  have R1 := Lib.hid hr1
  have R2 := Lib.hid hr2
  have b2 := ((((Below.refl w.heap.size w).alloc (Nat.le_refl _) (.cells #[.int .i64 h1, .slice a1 z1.length c1] 26)).alloc (by simp) (.cells #[.int .i64 j] 2)).alloc (by simp; omega) (.cells #[.int .i64 h2, .slice a2 z2.length c2] 26)).alloc (by simp; omega) (.cells #[.int .i64 0, .slice none 0 0] 26)
  have hmk := run_makeMap_plain (P := Tryd.prog) ((((w.alloc (.cells #[.int .i64 h1, .slice a1 z1.length c1] 26)).alloc (.cells #[.int .i64 j] 2)).alloc (.cells #[.int .i64 h2, .slice a2 z2.length c2] 26)).alloc (.cells #[.int .i64 0, .slice none 0 0] 26)) 76
  have p00 : ((((w.alloc (.cells #[.int .i64 h1, .slice a1 z1.length c1] 26)).alloc (.cells #[.int .i64 j] 2)).alloc (.cells #[.int .i64 h2, .slice a2 z2.length c2] 26)).alloc (.cells #[.int .i64 0, .slice none 0 0] 26)).cell? ⟨w.heap.size, 0, none⟩ = some (.int .i64 h1) := by simp [go_sem]
  have p01 : ((((w.alloc (.cells #[.int .i64 h1, .slice a1 z1.length c1] 26)).alloc (.cells #[.int .i64 j] 2)).alloc (.cells #[.int .i64 h2, .slice a2 z2.length c2] 26)).alloc (.cells #[.int .i64 0, .slice none 0 0] 26)).cell? ⟨w.heap.size, 1, none⟩ = some (.slice a1 z1.length c1) := by simp [go_sem]
  have pj : ((((w.alloc (.cells #[.int .i64 h1, .slice a1 z1.length c1] 26)).alloc (.cells #[.int .i64 j] 2)).alloc (.cells #[.int .i64 h2, .slice a2 z2.length c2] 26)).alloc (.cells #[.int .i64 0, .slice none 0 0] 26)).cell? ⟨w.heap.size + 1, 0, none⟩ = some (.int .i64 j) := by simp [go_sem]
  have p10 : ((((w.alloc (.cells #[.int .i64 h1, .slice a1 z1.length c1] 26)).alloc (.cells #[.int .i64 j] 2)).alloc (.cells #[.int .i64 h2, .slice a2 z2.length c2] 26)).alloc (.cells #[.int .i64 0, .slice none 0 0] 26)).cell? ⟨w.heap.size + 1 + 1, 0, none⟩ = some (.int .i64 h2) := by simp [go_sem]
  have p11 : ((((w.alloc (.cells #[.int .i64 h1, .slice a1 z1.length c1] 26)).alloc (.cells #[.int .i64 j] 2)).alloc (.cells #[.int .i64 h2, .slice a2 z2.length c2] 26)).alloc (.cells #[.int .i64 0, .slice none 0 0] 26)).cell? ⟨w.heap.size + 1 + 1, 1, none⟩ = some (.slice a2 z2.length c2) := by simp [go_sem]
  have hF0 : Boxes1 ((((w.alloc (.cells #[.int .i64 h1, .slice a1 z1.length c1] 26)).alloc (.cells #[.int .i64 j] 2)).alloc (.cells #[.int .i64 h2, .slice a2 z2.length c2] 26)).alloc (.cells #[.int .i64 0, .slice none 0 0] 26)) (w.heap.size + 1 + 1 + 1) := by
    have := World.alloc_heap_new (((w.alloc (.cells #[.int .i64 h1, .slice a1 z1.length c1] 26)).alloc (.cells #[.int .i64 j] 2)).alloc (.cells #[.int .i64 h2, .slice a2 z2.length c2] 26)) (.cells #[.int .i64 0, .slice none 0 0] 26)
    simpa [Boxes1] using this
  have hszV : ((((w.alloc (.cells #[.int .i64 h1, .slice a1 z1.length c1] 26)).alloc (.cells #[.int .i64 j] 2)).alloc (.cells #[.int .i64 h2, .slice a2 z2.length c2] 26)).alloc (.cells #[.int .i64 0, .slice none 0 0] 26)).heap.size = w.heap.size + 4 := by simp
  clear hr1 hr2
  go_enter Tryd.func32, Tryd.ntmps32
  go_wp2_with fail
  obtain ⟨V, hV⟩ : ∃ V, (((w.alloc (.cells #[.int .i64 h1, .slice a1 z1.length c1] 26)).alloc (.cells #[.int .i64 j] 2)).alloc (.cells #[.int .i64 h2, .slice a2 z2.length c2] 26)).alloc (.cells #[.int .i64 0, .slice none 0 0] 26) = V := ⟨_, rfl⟩
  rw [hV] at b2 p00 p01 pj p10 p11 hF0 hszV hmk
  simp only [hV]
  have hM : (V.alloc (.map #[] 0)).heap[V.heap.size]? = some (.map #[] 0) := World.alloc_heap_new V _
  have hB0 := (Below.refl V.heap.size V).alloc (Nat.le_refl _) (.map #[] 0)
  have b3 := chain b2 hB0
  replace p00 := cell_step hB0 p00
  replace p01 := cell_step hB0 p01
  replace pj := cell_step hB0 pj
  replace p10 := cell_step hB0 p10
  replace p11 := cell_step hB0 p11
  have hF1 := hF0.step hB0
  have hszW : (V.alloc (.map #[] 0)).heap.size = V.heap.size + 1 := by simp
  obtain ⟨W0, hW0⟩ : ∃ W0, V.alloc (.map #[] 0) = W0 := ⟨_, rfl⟩
  rw [hW0] at hM b3 p00 p01 pj p10 p11 hF1 hszW
  simp only [hW0]
  have HF1 := Lib.hid hF1
  have HB := Lib.hid b3
  have HJ := Lib.hid pj
  have HM := Lib.hid hM
  obtain ⟨r, hr⟩ : ∃ r, w.heap.size + 1 + 1 + 1 + 1 = r := ⟨_, rfl⟩
  have hVr : V.heap.size = r := by omega
  rw [hVr] at hszV hszW HM
  simp only [hr]
  have HC1 := Lib.hid (fun X (hX : Below W0.heap.size W0 X) => first_any r 0 h1 a1 z1 c1 X ((hX.block r (by omega)).trans HM.out) ((R1.out.step HB.out).step hX) hs1)
  have HC2 := Lib.hid (fun (v1 : Option Addr) X (hX : Below r W0 X) (hst : Stage1 r 0 h1 z1 (.pointer v1) X) => second_any r 0 h1 z1 (.pointer v1) h2 a2 z2 c2 X hst (R2.out.step (HB.out.trans (hX.mono (by omega)))) hs2)
  have MK := Lib.hid (show ∀ w' : World, Below r W0 w' → Below r W0 w' ∧ w'.cell? ⟨w.heap.size, 0, none⟩ = some (.int .i64 h1) ∧ w'.cell? ⟨w.heap.size, 1, none⟩ = some (.slice a1 z1.length c1) ∧ w'.cell? ⟨w.heap.size + 1 + 1, 0, none⟩ = some (.int .i64 h2) ∧ w'.cell? ⟨w.heap.size + 1 + 1, 1, none⟩ = some (.slice a2 z2.length c2) from fun w' h => ⟨h, (h.cell (by show w.heap.size < r; omega)).trans p00, (h.cell (by show w.heap.size < r; omega)).trans p01, (h.cell (by show w.heap.size + 1 + 1 < r; omega)).trans p10, (h.cell (by show w.heap.size + 1 + 1 < r; omega)).trans p11⟩)
  have hrW : r < W0.heap.size := by omega
  have hwr : w.heap.size + 1 + 1 + 1 < r := by omega
  have HSZ := Lib.hid (And.intro hszV hszW)
  clear hr hVr hW0 hV hmk b2 hB0 b3 hF0 hF1 hM pj hszV hszW
  go_cut [9, 10] from 13 to 18 (fun s9 s10 wr => ∃ (q9 q10 : Nat) (v1 v2 : Option Addr), s9 = .pointer (some ⟨q9, 0, none⟩) ∧ s10 = .pointer (some ⟨q10, 0, none⟩) ∧ wr.cell? ⟨q9, 0, none⟩ = some (.pointer v1) ∧ wr.cell? ⟨q10, 0, none⟩ = some (.pointer v2) ∧ HasTab h1 z1 (.pointer v1) wr ∧ HasTab h2 z2 (.pointer v2) wr ∧ Below r W0 wr)
  case first =>
    go_region_held3 (fun w' => Below r W0 w' ∧ w'.cell? ⟨w.heap.size, 0, none⟩ = some (.int .i64 h1) ∧ w'.cell? ⟨w.heap.size, 1, none⟩ = some (.slice a1 z1.length c1) ∧ w'.cell? ⟨w.heap.size + 1 + 1, 0, none⟩ = some (.int .i64 h2) ∧ w'.cell? ⟨w.heap.size + 1 + 1, 1, none⟩ = some (.slice a2 z2.length c2))
      (first
        | exact MK.out _ (Below.refl _ _).drew
        | exact MK.out _ ((Below.refl r W0).alloc (Nat.le_of_lt hrW) _).drew
        | exact MK.out _ (((Below.refl r W0).alloc (Nat.le_of_lt hrW) _).alloc (by simp <;> omega) _).drew
        | exact MK.out _ ((‹Below r W0 _ ∧ _›).1.trans hb)
        | exact MK.out _ ((‹Below r W0 _ ∧ _›).1.alloc (Nat.le_trans (Nat.le_of_lt hrW) (‹Below r W0 _ ∧ _›).1.size) _)
        | exact MK.out _ ((‹Below r W0 _ ∧ _›).1.setCell (by simp <;> omega) _)
        | (refine MK.out _ ?_; (repeat (first | exact EW2 | refine Below.setCell ?_ (by first | (show r ≤ _; omega) | (simp; omega)) _ | refine Below.alloc ?_ (by first | omega | (simp; omega)) _)); done)
        | fail)
      (first
        | (go_at_call_of 66 h1; have KK := (‹Below r W0 _ ∧ _›).1; refine (HC1.out _ (by first | exact drew_step _ | exact (drew_step _).alloc (Nat.le_refl _) _ | exact (al _ _).drew | exact ((drew_step _).alloc (Nat.le_refl _) _).alloc (by simp) _ | exact ((al _ _).drew).alloc (by simp) _ | exact ((al _ _).alloc (by simp) _).drew)).mono ?_; rintro e w3 ⟨v1, rfl, hst, hb, hk⟩; have S1 := hst; have EW := KK.trans hb; have hw3 : W0.heap.size ≤ w3.heap.size := EW.size; clear KK hst; (try have nA : NoTab w3 W0.heap.size := NoTab.kept (by first | exact NoTab.new _ _ | exact (NoTab.new _ _).step (drew_step _) | exact (NoTab.new _ _).step (al _ _) | exact ((NoTab.new _ _).step (drew_step _)).step (al _ _) | exact ((NoTab.new _ _).step (al _ _)).step (drew_step _)) hk hrW); (try have nB : NoTab w3 (W0.heap.size + 1) := NoTab.kept (by first | exact NoTab.new2 _ _ _ | exact (NoTab.new2 _ _ _).step (drew_step _) | fail) hk (by omega)); (try (have lA := nA.lt; have cA := nA.c; have fA := nA.f; have n1 := Nat.ne_of_lt lA; have n1' := Nat.ne_of_gt lA)); (try (have lB := nB.lt; have cB := nB.c; have fB := nB.f; have n2 := Nat.ne_of_lt lB; have n2' := Nat.ne_of_gt lB)))
        | (go_at_call_of 66 h2; have KK := (‹Below r W0 _ ∧ _›).1; refine (HC2.out v1 _ KK (by first | exact S1 | exact S1.step (al _ _) | exact (S1.step (al _ _)).step (al _ _))).mono ?_; rintro e w4 ⟨v2, rfl, ht1, ht2, hb, hk2⟩; have EW2 := KK.trans hb; have hw4 : W0.heap.size ≤ w4.heap.size := EW2.size; clear KK; (try replace nA : NoTab w4 W0.heap.size := NoTab.kept (by first | exact nA | exact nA.step (al _ _) | exact (nA.step (al _ _)).step (al _ _)) hk2 hrW); (try replace nB : NoTab w4 (W0.heap.size + 1) := NoTab.kept (by first | exact nB | exact nB.step (al _ _)) hk2 (by omega)); (try have nC : NoTab w4 w3.heap.size := NoTab.kept (by first | exact NoTab.new _ _ | exact (NoTab.new _ _).step (al _ _)) hk2 (by omega)); (try have nD : NoTab w4 (w3.heap.size + 1) := NoTab.kept (by first | exact NoTab.new2 _ _ _ | exact (NoTab.new2 _ _ _).step (drew_step _) | fail) hk2 (by omega)); (try (replace lA := nA.lt; replace cA := nA.c; replace fA := nA.f; have n3 := Nat.ne_of_lt lA; have n3' := Nat.ne_of_gt lA)); (try (replace lB := nB.lt; replace cB := nB.c; replace fB := nB.f; have n4 := Nat.ne_of_lt lB; have n4' := Nat.ne_of_gt lB)); (try (have lC := nC.lt; have cC := nC.c; have fC := nC.f; have n5 := Nat.ne_of_lt lC; have n5' := Nat.ne_of_gt lC)); (try (have lD := nD.lt; have cD := nD.c; have fD := nD.f; have n6 := Nat.ne_of_lt lD; have n6' := Nat.ne_of_gt lD))))
    all_goals (have KF := (‹Below r W0 _ ∧ _›).1; go_wp2_with fail; go_meet; first
      | exact ⟨_, _, v1, v2, rfl, rfl, (pu_aa w4 v1 v2 _ _).1, (pu_aa w4 v1 v2 _ _).2.1, (pu_aa w4 v1 v2 _ _).2.2 _ _ _ ht1, (pu_aa w4 v1 v2 _ _).2.2 _ _ _ ht2, KF⟩
      | exact ⟨_, _, v1, v2, rfl, rfl, (pu_aa w4 v2 v1 _ _).2.1, (pu_aa w4 v2 v1 _ _).1, (pu_aa w4 v2 v1 _ _).2.2 _ _ _ ht1, (pu_aa w4 v2 v1 _ _).2.2 _ _ _ ht2, KF⟩
      | exact ⟨_, _, v1, v2, rfl, rfl, (pu_sa w4 _ v1 v2 _ (by first | exact nA | exact nB | exact nC | exact nD)).1, (pu_sa w4 _ v1 v2 _ (by first | exact nA | exact nB | exact nC | exact nD)).2.1, (pu_sa w4 _ v1 v2 _ (by first | exact nA | exact nB | exact nC | exact nD)).2.2 _ _ _ ht1, (pu_sa w4 _ v1 v2 _ (by first | exact nA | exact nB | exact nC | exact nD)).2.2 _ _ _ ht2, KF⟩
      | exact ⟨_, _, v1, v2, rfl, rfl, (pu_sa w4 _ v2 v1 _ (by first | exact nA | exact nB | exact nC | exact nD)).2.1, (pu_sa w4 _ v2 v1 _ (by first | exact nA | exact nB | exact nC | exact nD)).1, (pu_sa w4 _ v2 v1 _ (by first | exact nA | exact nB | exact nC | exact nD)).2.2 _ _ _ ht1, (pu_sa w4 _ v2 v1 _ (by first | exact nA | exact nB | exact nC | exact nD)).2.2 _ _ _ ht2, KF⟩
      | exact ⟨_, _, v1, v2, rfl, rfl, (pu_ss w4 _ _ v1 v2 (by first | exact nA | exact nB | exact nC | exact nD) (by first | exact nA | exact nB | exact nC | exact nD) (by omega)).1, (pu_ss w4 _ _ v1 v2 (by first | exact nA | exact nB | exact nC | exact nD) (by first | exact nA | exact nB | exact nC | exact nD) (by omega)).2.1, (pu_ss w4 _ _ v1 v2 (by first | exact nA | exact nB | exact nC | exact nD) (by first | exact nA | exact nB | exact nC | exact nD) (by omega)).2.2 _ _ _ ht1, (pu_ss w4 _ _ v1 v2 (by first | exact nA | exact nB | exact nC | exact nD) (by first | exact nA | exact nB | exact nC | exact nD) (by omega)).2.2 _ _ _ ht2, KF⟩)
  case rest =>
  obtain ⟨q9, q10, v1, v2, rfl, rfl, e9, e10, ht1, ht2, hb⟩ := hcut
  obtain ⟨w3, hwn⟩ : ∃ W : World, W = wc := ⟨_, rfl⟩
  subst hwn
  replace p00 := (hb.cell (p := ⟨w.heap.size, 0, none⟩) (by show w.heap.size < r; omega)).trans p00
  replace p10 := (hb.cell (p := ⟨w.heap.size + 1 + 1, 0, none⟩) (by show w.heap.size + 1 + 1 < r; omega)).trans p10
  have pj := (hb.cell (p := ⟨w.heap.size + 1, 0, none⟩) (by show w.heap.size + 1 < r; omega)).trans HJ.out
  have hf3 : Boxes1 w3 (w.heap.size + 1 + 1 + 1) := (hb.block _ hwr).trans HF1.out
  have HF3 := Lib.hid hf3
  have HB3 := Lib.hid (HB.out.trans (hb.mono (by omega)))
  have c0 := hf3.c0
  have c1' := hf3.c1
  have f0 := hf3.f 0
  have f1 := hf3.f 1
  have hZ := hf3.lt
  clear hb hf3 HC1 HC2 MK HSZ HM HF1 HB HJ p01 p11
  rcases ht1 with ⟨k1, T1, hv1, t1⟩ | ⟨k1, hv1⟩
  case inr =>
    cases hv1
    have HV := Lib.hid (put_bad (j := j) (h2 := h2) (z2 := z2) (fun k => k1 k.1))
    clear k1 ht2
    go_wp2_with fail
    refine bodyPost_ret (v := .tuple #[.agg #[.int .i64 0, .slice none 0 0], .int .i64 1]) (by simp [results, Tryd.results32, go_sem, c0, c1']) rfl ?_
    rw [HV.out]
    exact GivesFO.no _ ((HB3.out.setCell (by simp <;> omega) _).setCell (by simp <;> omega) _)
  cases hv1
  rcases ht2 with ⟨k2, T2, hv2, t2⟩ | ⟨k2, hv2⟩
  case inr =>
    cases hv2
    have HV := Lib.hid (put_bad (j := j) (h1 := h1) (z1 := z1) (fun k => k2 k.2))
    clear k1 k2 t1
    go_wp2_with fail
    refine bodyPost_ret (v := .tuple #[.agg #[.int .i64 0, .slice none 0 0], .int .i64 1]) (by simp [results, Tryd.results32, go_sem, c0, c1']) rfl ?_
    rw [HV.out]
    exact GivesFO.no _ ((HB3.out.setCell (by simp <;> omega) _).setCell (by simp <;> omega) _)
  cases hv2
  have KK := Lib.hid (And.intro k1 k2)
  have HT1 := Lib.hid t1
  have HT2 := Lib.hid t2
  have hh1 : 1 ≤ h1 := k1.1.1
  have hh7 : h1 ≤ 7 := k1.1.2
  have gh1 : 1 ≤ h2 := k2.1.1
  have gh7 : h2 ≤ 7 := k2.1.2
  clear k1 k2 t1 t2
  by_cases j0 : j < 0
  · have HV := Lib.hid (put_out KK.out (j := j) (fun q => by omega))
    go_wp2_with fail
    refine bodyPost_ret (v := .tuple #[.agg #[.int .i64 0, .slice none 0 0], .int .i64 2]) (by simp [results, Tryd.results32, go_sem, c0, c1']) rfl ?_
    rw [HV.out]
    exact GivesFO.no _ ((HB3.out.setCell (by simp <;> omega) _).setCell (by simp <;> omega) _)
  have j1 : 0 ≤ j := by omega
  clear j0
  by_cases j2 : h1 ≤ j
  · have HV := Lib.hid (put_out KK.out (j := j) (fun q => by omega))
    go_wp2_with fail
    refine bodyPost_ret (v := .tuple #[.agg #[.int .i64 0, .slice none 0 0], .int .i64 2]) (by simp [results, Tryd.results32, go_sem, c0, c1']) rfl ?_
    rw [HV.out]
    exact GivesFO.no _ ((HB3.out.setCell (by simp <;> omega) _).setCell (by simp <;> omega) _)
  have j3 : j < h1 := by omega
  clear j2
  obtain ⟨m, rfl⟩ : ∃ m : Nat, h1 = (m : Int) := ⟨h1.toNat, by omega⟩
  obtain ⟨n, rfl⟩ : ∃ n : Nat, h2 = (n : Int) := ⟨h2.toNat, by omega⟩
  obtain ⟨i, rfl⟩ : ∃ i : Nat, j = (i : Int) := ⟨j.toNat, by omega⟩
  obtain ⟨k, hk⟩ : ∃ k : Nat, (m : Int) - 1 = (k : Int) := ⟨m - 1, by omega⟩
  obtain ⟨t, ht⟩ : ∃ t : Nat, (k : Int) + (n : Int) = (t : Int) := ⟨k + n, by omega⟩
  have HK := Lib.hid hk
  have HTN := Lib.hid ht
  have hbT := al w3 (.cells #[.int .i64 (k : Int)] 2)
  have g0 := cell_step hbT p00
  have gj := cell_step hbT pj
  have g2 := cell_step hbT p10
  have g9 := cell_step hbT e9
  have g10 := cell_step hbT e10
  have gk : (w3.alloc (.cells #[.int .i64 (k : Int)] 2)).cell? ⟨w3.heap.size, 0, none⟩ = some (.int .i64 (k : Int)) := by simp [go_sem]
  have hf4 := HF3.out.step hbT
  have d0 := hf4.c0
  have d1 := hf4.c1
  have df0 := hf4.f 0
  have df1 := hf4.f 1
  have HF4 := Lib.hid hf4
  have HB4 := Lib.hid (chain HB3.out hbT)
  have S1 := Lib.hid (HT1.out.step hbT)
  have S2 := Lib.hid (HT2.out.step hbT)
  clear hbT hf4
  by_cases ht7 : t ≤ 7
  case neg =>
    have HV := Lib.hid (put_much KK.out (j := (i : Int)) ⟨by omega, by omega⟩ (by rw [HK.out, HTN.out]; omega))
    have h7 : (7 : Int) < (t : Int) := by omega
    clear ht7
    go_wp2_with fail
    refine bodyPost_ret (v := .tuple #[.agg #[.int .i64 0, .slice none 0 0], .int .i64 3]) (by simp [results, Tryd.results32, go_sem, hZ, c0, c1']) rfl ?_
    rw [HV.out]
    exact GivesFO.no _ (((HB3.out.setCell (by simp <;> omega) _).setCell (by simp <;> omega) _).alloc (by simp; exact HB3.out.size) _)
  have hik : i ≤ k := by omega
  have hk7 : k < 7 := by omega
  have hmk : m = k + 1 := by omega
  have htn : t = k + n := by omega
  have h7n : ¬ (7 : Int) < (t : Int) := by omega
  have HV := Lib.hid (put_yes KK.out (i := i) (by omega) HK.out HTN.out ht7)
  have HQ := Lib.hid (show famOf t (fun x => tabOf (m : Int) z1 (minN (tabOf (n : Int) z2 (x / 2 ^ k)) i (lowN k x))) = famOf t (putB i k z1 z2) from famOf_congr ht7 fun y hy => by
    have hy128 : y < 128 := Nat.lt_of_lt_of_le hy (Nat.pow_le_pow_right (by decide) ht7 : 2 ^ t ≤ 2 ^ 7)
    have hy2 : y / 2 ^ k < 2 ^ n := by
      refine Nat.div_lt_of_lt_mul ?_
      rw [← Nat.pow_add, ← htn]; exact hy
    show tabOf (m : Int) z1 (minN (tabOf (n : Int) z2 (y / 2 ^ k)) i (lowN k y)) = tblAt z1 z1.length (minN (tblAt z2 z2.length (y / 2 ^ k)) i (lowN k y))
    rw [tab_at (by omega) hy2]
    refine tab_at (by omega) ?_
    rw [hmk]
    exact putN_lt z2 hk7 hik hy128)
  have HCH := Lib.hid (Pu_chooses w3.heap.size (w.heap.size + 1) q10 q9 T1 T2 (m : Int).toNat (n : Int).toNat k i t (tabOf (m : Int) z1) (tabOf (n : Int) z2) _ gk gj g10 g9 S1.out S2.out hk7 hik)
  have HMK := Lib.hid hmk
  have HTT := Lib.hid htn
  have t1 : 1 ≤ t := by omega
  clear hmk htn
  go_wp2_with fail
  generalize w3.alloc (.cells #[.int .i64 (k : Int)] 2) = w4 at *
  refine (familyWhereC_any t _ #[] #[.pointer (some ⟨w3.heap.size, 0, none⟩), .pointer (some ⟨w.heap.size + 1, 0, none⟩), .pointer (some ⟨q10, 0, none⟩), .pointer (some ⟨q9, 0, none⟩)] (fun x => tabOf (m : Int) z1 (minN (tabOf (n : Int) z2 (x / 2 ^ k)) i (lowN k x))) w4 t1 ht7 HCH.out).mono ?_
  rintro e w5 ⟨⟨v, us, rfl, hrow, hrows⟩, hb⟩
  rw [famOf_seen ht7, HQ.out] at hrow hrows
  obtain ⟨va, vc, hva⟩ := rowForm hrow
  subst hva
  have hZ3 := HF4.out.lt
  have hf' := HF4.out.step hb
  have b0 := hf'.c0
  have b1 := hf'.c1
  have bf0 := hf'.f 0
  have bf1 := hf'.f 1
  have HR := Lib.hid hrow
  have HRS := Lib.hid hrows
  have HB5 := Lib.hid (chain HB4.out hb)
  have hle : w.heap.size ≤ w4.heap.size := HB4.out.size
  clear hrow hrows hb hf'
  generalize famOf t (putB i k z1 z2) = Z at *
  go_wp2_with fail
  refine bodyPost_ret (v := .tuple #[.agg #[.int .i64 (t : Nat), .slice va Z.length vc], .int .i64 0]) (by simp [results, Tryd.results32, go_sem, b0, b1]) rfl ?_
  rw [HV.out]
  exact ⟨⟨_, us, rfl, ownsRow_mono (row_set (row_set HR.out hZ3 _) hZ3 _) hle, (HRS.out.map fun u zs hu => row_set (row_set hu hZ3 _) hZ3 _).mono hle⟩, (HB5.out.setCell (by simp <;> omega) _).setCell (by simp <;> omega) _⟩
end Go.Proofs.YteifllengcacbaaDoor
