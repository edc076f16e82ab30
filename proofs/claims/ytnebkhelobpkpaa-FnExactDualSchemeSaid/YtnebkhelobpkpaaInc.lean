/- increased of the program; changeRow for rows of any length. -/
import Derived.Test.YtnebkhelobpkpaaChr
import Derived.Shelf.Abstract
namespace Go.Proofs.Ytnebkhelobpkpaa
open Go.RowKit Go.Deep
set_option linter.unusedVariables false

set_option maxRecDepth 100000 in
set_option maxHeartbeats 1000000 in
theorem incr_any (p x fct : Int) (j q2 q3 rc : Nat) (ra : Option Addr) (zs : List Int) (W : World) (hp : 2 ≤ p) (hp1 : p ≤ 31) (h2 : Boxes W q2 173 #[.slice ra zs.length rc]) (h3 : Boxes W q3 126 #[.int .i64 p, .int .i64 fct]) (hz : Nums W ra p zs) (hj : j < zs.length) (hl : zs.length ≤ 1000) (hx : Elem p x) (hf : Elem p fct) (he : Elem p (nth zs j)) :
    Calls Try.prog 168 #[.int .i64 j, .agg #[.int .i64 p, .int .i64 x], .pointer (some ⟨q2, 0, none⟩), .pointer (some ⟨q3, 0, none⟩)] W fun e w' => e = .returned (.agg #[.int .i64 p, .int .i64 ((x + nth zs j * fct % p) % p)]) ∧ Below W.heap.size W w' := by
  have hj0 : (j : Int) < (zs.length : Int) := by omega
  have c2 : W.cell? ⟨q2, 0, none⟩ = some (.slice ra zs.length rc) := by rw [h2.cell]; rfl
  have c30 : W.cell? ⟨q3, 0, none⟩ = some (.int .i64 p) := by rw [h3.cell]; rfl
  have c31 : W.cell? ⟨q3, 1, none⟩ = some (.int .i64 fct) := by rw [h3.cell]; rfl
  have l2 := h2.lt
  have l3 := h3.lt
  rcases hz with h | ⟨b, rfl, hc⟩
  · rw [h] at hj; exact absurd hj (Nat.not_lt_zero _)
  obtain ⟨d0, d1⟩ := hc j hj
  have lb := World.block_lt_of_cell? _ _ d0
  simp only at lb
  clear hc h2 h3
  have HX := Lib.hid hx
  have HF := Lib.hid hf
  have HE := Lib.hid he
  clear hx hf he
  generalize hzj : nth zs j = y at *
  clear hzj
  go_enter Try.func168, Try.ntmps168
  go_wp2_with fail
  have hb1 := ((Below.refl W.heap.size W).alloc (Nat.le_refl _) (.cells #[.int .i64 p, .int .i64 x] 126)).alloc (by simp) (.cells #[.int .i64 0, .int .i64 0] 126)
  have hs1 : ((W.alloc (.cells #[.int .i64 p, .int .i64 x] 126)).alloc (.cells #[.int .i64 0, .int .i64 0] 126)).heap.size = W.heap.size + 2 := by simp
  have hx5 : Boxes ((W.alloc (.cells #[.int .i64 p, .int .i64 x] 126)).alloc (.cells #[.int .i64 0, .int .i64 0] 126)) W.heap.size 126 #[.int .i64 p, .int .i64 x] := Boxes.step (World.alloc_heap_new W _) ((Below.refl _ _).alloc (Nat.le_refl _) (.cells #[.int .i64 0, .int .i64 0] 126))
  have hx6 : Boxes ((W.alloc (.cells #[.int .i64 p, .int .i64 x] 126)).alloc (.cells #[.int .i64 0, .int .i64 0] 126)) (W.heap.size + 1) 126 #[.int .i64 0, .int .i64 0] := by
    have : Boxes ((W.alloc (.cells #[.int .i64 p, .int .i64 x] 126)).alloc (.cells #[.int .i64 0, .int .i64 0] 126)) (W.alloc (.cells #[.int .i64 p, .int .i64 x] 126)).heap.size 126 #[.int .i64 0, .int .i64 0] := World.alloc_heap_new _ _
    simp only [World.size_alloc] at this
    exact this
  have g2 := (hb1.cell (p := ⟨q2, 0, none⟩) l2).trans c2
  have g30 := (hb1.cell (p := ⟨q3, 0, none⟩) l3).trans c30
  have g31 := (hb1.cell (p := ⟨q3, 1, none⟩) l3).trans c31
  have gd0 := (hb1.cell (p := ⟨b, j * 2, none⟩) lb).trans d0
  have gd1 := (hb1.cell (p := ⟨b, j * 2 + 1, none⟩) lb).trans d1
  generalize (W.alloc (.cells #[.int .i64 p, .int .i64 x] 126)).alloc (.cells #[.int .i64 0, .int .i64 0] 126) = w2 at *
  have x50 := hx5.c0
  have x51 := hx5.c1
  have x60 := hx6.c0
  have x61 := hx6.c1
  have y60 := hx6.frozen 0
  have y61 := hx6.frozen 1
  have HX5 := Lib.hid hx5
  have HX6 := Lib.hid hx6
  have HB1 := Lib.hid hb1
  clear hx5 hx6 hb1 c2 c30 c31 d0 d1
  go_region_law (first | (go_simp; go_at_call 165; refine (times_any p y fct _ hp hp1 HE.out HF.out).mono ?_; rintro e w8 ⟨rfl, hb8⟩; have HB8 := Lib.hid (show Below w2.heap.size w2 w8 by first | exact hb8 | exact (drew_step w2).trans hb8); have z50 := (HX5.out.step HB8.out).c0; have z51 := (HX5.out.step HB8.out).c1) | (go_simp; go_at_call 169; refine (plus_any p x (y * fct % p) _ hp hp1 HX.out (mod_elem hp _)).mono ?_; rintro e w9 ⟨rfl, hb9⟩; have HB9 := Lib.hid (show Below w2.heap.size w2 w9 by first | exact HB8.out.trans (hb9.mono HB8.out.size) | exact HB8.out.drew.trans (hb9.mono HB8.out.size)); have z60 := (HX6.out.step HB9.out).c0; have z61 := (HX6.out.step HB9.out).c1; have zf0 := (HX6.out.step HB9.out).frozen 0; have zf1 := (HX6.out.step HB9.out).frozen 1; have zl := (HX6.out.step HB9.out).lt))
  all_goals (
    go_wp2_with fail
    refine bodyPost_ret (v := .agg #[.int .i64 p, .int .i64 ((x + y * fct % p) % p)]) (by simp [results, Try.results168, go_sem, z60, z61]) rfl ⟨rfl, ?_⟩
    have hb := HB1.out.trans (HB9.out.mono (by omega))
    exact (hb.setCell (p := ⟨W.heap.size + 1, 0, none⟩) (Nat.le_add_right _ _) _).setCell (p := ⟨W.heap.size + 1, 1, none⟩) (Nat.le_add_right _ _) _)

set_option maxRecDepth 100000 in
theorem increased_any (p fct : Int) (rc n : Nat) (ra : Option Addr) (w : World) :
    Calls Try.prog 142 #[.slice ra n rc, .agg #[.int .i64 p, .int .i64 fct]] w fun e w' => e = .returned (.func (.func 168) #[] #[.pointer (some ⟨w.heap.size, 0, none⟩), .pointer (some ⟨w.heap.size + 1, 0, none⟩)]) ∧
      Boxes w' w.heap.size 173 #[.slice ra n rc] ∧ Boxes w' (w.heap.size + 1) 126 #[.int .i64 p, .int .i64 fct] ∧ Below w.heap.size w w' := by
  have hmf : ∀ (fn : Fn) (first cap : Array Value) (w : World), (Instr.makeFunc fn first cap).run Try.prog w = .ok (.func fn first cap) w := fun _ _ _ _ => rfl
  go_enter Try.func142, Try.ntmps142
  go_wp2_with fail
  go_ret
  refine ⟨rfl, ?_, ?_, ((Below.refl w.heap.size w).alloc (Nat.le_refl _) _).alloc (by simp) _⟩
  · exact Boxes.step (World.alloc_heap_new w _) ((Below.refl _ _).alloc (Nat.le_refl _) _)
  · have : Boxes ((w.alloc (.cells #[.slice ra n rc] 173)).alloc (.cells #[.int .i64 p, .int .i64 fct] 126)) (w.alloc (.cells #[.slice ra n rc] 173)).heap.size 126 #[.int .i64 p, .int .i64 fct] := World.alloc_heap_new _ _
    simp only [World.size_alloc] at this
    exact this

/-- What 'increased' reads. -/
structure IncInv (g q2 q3 rc : Nat) (ra : Option Addr) (p fct : Int) (zs : List Int) (W : World) : Prop where
  b2 : Boxes W q2 173 #[.slice ra zs.length rc]
  b3 : Boxes W q3 126 #[.int .i64 p, .int .i64 fct]
  nums : Nums W ra p zs
theorem Nums.put {W : World} {ra : Option Addr} {p : Int} {zs : List Int} {g o : Nat} (h : Nums W ra p zs) (hne : ∀ a, ra = some a → a.block ≠ g) (u : Value) : Nums (W.setCell ⟨g, o, none⟩ u) ra p zs := by
  rcases h with h | ⟨b, rfl, hc⟩
  · exact .inl h
  · have hb : b ≠ g := hne _ rfl
    refine .inr ⟨b, rfl, fun i hi => ?_⟩
    obtain ⟨h1, h2⟩ := hc i hi
    exact ⟨by rw [World.cell?_setCell_other _ _ _ _ (by first | (simp; done) | (simp; omega))]; exact h1, by rw [World.cell?_setCell_other _ _ _ _ (by first | (simp; done) | (simp; omega))]; exact h2⟩
theorem incr_changes (g q2 q3 rc n : Nat) (ra : Option Addr) (p fct : Int) (zs : List Int) (row : Nat → Int) (hp : 2 ≤ p) (hp1 : p ≤ 31) (hz : zs.length = n) (hn : n ≤ 1000) (hf : Elem p fct) (he : ∀ j, j < n → Elem p (nth zs j)) (hr : ∀ j, j < n → Elem p (row j))
    (h2 : q2 ≠ g) (h3 : q3 ≠ g) (hra : ∀ a, ra = some a → a.block ≠ g) :
    Changes g 168 #[.pointer (some ⟨q2, 0, none⟩), .pointer (some ⟨q3, 0, none⟩)] p n row (fun j x => (x + nth zs j * fct % p) % p) (IncInv g q2 q3 rc ra p fct zs) := by
  refine ⟨enters_of Try.func168 (by kernel_rfl) rfl, fun W W' k hb => ⟨k.b2.step hb, k.b3.step hb, k.nums.step hb⟩, fun W o u k => ⟨k.b2.other3 h2, k.b3.other3 h3, k.nums.put hra u⟩, fun W j k hj => ?_⟩
  exact incr_any p (row j) fct j q2 q3 rc ra zs W hp hp1 k.b2 k.b3 k.nums (by omega) (by omega) (hr j hj) hf (he j hj)

set_option maxRecDepth 100000 in
set_option maxHeartbeats 1000000 in
theorem changeRow_nil (va : Option Addr) (vc m i base : Nat) (p : Int) (fv : Value) (us : List Value) (f : Nat → Nat → Int) (w : World) (ho : OwnG w base p (.slice va m vc) us (tab m 0 f)) (hi : i < m) (hm : m ≤ 1000) :
    Calls Try.prog 141 #[.slice va m vc, .int .i64 i, fv] w fun e w' => e = .returned (.tuple #[]) ∧ w = w' := by
  have hil : i < (tab m 0 f).length := by rw [tab_len]; exact hi
  obtain ⟨a', c', e, hgr⟩ := ho.grid
  rw [tab_len] at e
  cases e
  rcases hgr with h | ⟨b, rfl, hc⟩
  · rw [h] at hil; exact absurd hil (Nat.not_lt_zero _)
  obtain ⟨ai, ci, hcell, _⟩ := hc i hil
  rw [tab_rlen _ _ _ hi] at hcell
  have hi0 : (i : Int) < (m : Int) := by omega
  clear hc hil ho
  go_enter Try.func141, Try.ntmps141
  go_wp2_with fail
  go_rounds 1
  go_end0
  exact ⟨rfl, rfl⟩
/-- A row of any length is changed. -/
theorem changeRow_gen (p : Int) (va : Option Addr) (vc m n i base fid : Nat) (cr : Array Value) (us : List Value) (f : Nat → Nat → Int) (h : Nat → Int → Int) (w : World)
    (ho : OwnG w base p (.slice va m vc) us (tab m n f)) (hi : i < m) (hm : m ≤ 1000) (hn : n ≤ 1000) (hC : ∀ g cap, us[i]? = some (.slice (some ⟨g, 0, none⟩) n cap) → base ≤ g → g < w.heap.size → 0 < n → ∃ Inv, Changes g fid cr p n (f i) h Inv ∧ Inv w) :
    Calls Try.prog 141 #[.slice va m vc, .int .i64 i, .func (.func fid) #[] cr] w fun e w' => e = .returned (.tuple #[]) ∧ OwnG w' base p (.slice va m vc) us (tab m n (chTo f i n h)) ∧ Below base w w' ∧ w.heap.size ≤ w'.heap.size ∧ ∀ B t vs, t ≠ 126 → Boxes w B t vs → Boxes w' B t vs := by
  by_cases h0 : n = 0
  · subst h0
    refine (changeRow_nil va vc m i base p _ us f w ho hi hm).mono ?_
    rintro e w' ⟨rfl, rfl⟩
    rw [chTo_zero]
    exact ⟨rfl, ho, Below.refl _ _, Nat.le_refl _, fun _ _ _ _ k => k⟩
  · have hil : i < (tab m n f).length := by rw [tab_len]; exact hi
    have hrl : (nthL (tab m n f) i).length = n := tab_rlen _ _ _ hi
    obtain ⟨b, c, g, cap, hv, hu, hb1, hg1, hbl, hgl, hcr, hcc, hfz, hon⟩ := ho.at (r := i) hil (by rw [hrl]; omega)
    rw [hrl] at hu hon
    obtain ⟨Inv, hCh, hI⟩ := hC g cap hu hg1 hgl (by omega)
    refine (changeRow_any p va vc m n i base g cap fid cr us f h Inv w ho hi hm hn (by omega) hu hCh hI).mono ?_
    rintro e w' ⟨rfl, ho', hg', _⟩
    exact ⟨rfl, ho', ⟨hg'.os, hg'.tape, hg'.output, hg'.size, fun q hq => hg'.block q (by omega) (by simp; omega)⟩, hg'.size, fun B t vs ht hB => hB.grown hg' (by have := hB.off hon ht; simp; omega)⟩
end Go.Proofs.Ytnebkhelobpkpaa
