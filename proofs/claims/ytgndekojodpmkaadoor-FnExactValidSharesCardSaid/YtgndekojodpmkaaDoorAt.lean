/- curve.at of the program: slices.Backward over a curve, the value at a point. -/
import Derived.Test.YtgndekojodpmkaaDoorTrm
import Derived.Test.YtgndekojodpmkaaDoorSum
import Derived.RangeFuncKeeps
import Derived.RangeFuncNested
import Derived.RangeFuncBound
import Derived.RangeFuncCalls
import Derived.RangeFuncLeaves
import Derived.Shelf.Abstract
import Derived.OwnWalkIn
import Derived.TacticsInMore
import Derived.LoopNIn
import Derived.LoopIn
import Derived.Shelf.RegionOpen
import Derived.Stop.RegionWithIn
namespace Go.Proofs.YtgndekojodpmkaaDoor
open Go.RowKit Go.Deep Go.Shelf
set_option linter.unusedVariables false
attribute [local go_sem] Oper.semAt_some

/-- An item of a curve with its place. -/
abbrev Co (p : Int) := { x : Nat × Int // Elem p x.2 }
def encB (p : Int) (x : Co p) : Array Value := #[.int .i64 (x.1.1 : Int), .agg #[.int .i64 p, .int .i64 x.1.2]]
def backs {p : Int} (zs : List Int) (h : ∀ i, Elem p (nth zs i)) : List (Co p) := (List.range zs.length).map fun k => ⟨(zs.length - 1 - k, nth zs (zs.length - 1 - k)), h _⟩
theorem backs_len {p : Int} (zs : List Int) (h : ∀ i, Elem p (nth zs i)) : (backs zs h).length = zs.length := by simp [backs]
theorem backs_take {p : Int} {zs : List Int} (h : ∀ i, Elem p (nth zs i)) {k : Nat} (hk : k < zs.length) : (backs zs h).take (k + 1) = (backs zs h).take k ++ [⟨(zs.length - 1 - k, nth zs (zs.length - 1 - k)), h _⟩] := by
  rw [List.take_succ_eq_append_getElem (by rw [backs_len]; exact hk)]
  simp [backs]
theorem backs_vals {p : Int} (zs : List Int) (h : ∀ i, Elem p (nth zs i)) : (backs zs h).map (fun x => x.1.2) = zs.reverse := by
  refine List.ext_getElem (by simp [backs]) fun i h1 h2 => ?_
  have hi : i < zs.length := by simpa [backs] using h1
  simp only [backs, List.getElem_map, List.getElem_range, List.getElem_reverse]
  exact nth_lt (by omega)
/-- What the iterator needs to be kept. -/
structure Keep2 (B0 B : Nat) (A C : World) : Prop where
  one : C.heap[B]? = A.heap[B]?
  all : ∀ k, k < B0 → C.heap[k]? = A.heap[k]?
theorem Keep2.trans {B0 B : Nat} {X Y Z : World} (h : Keep2 B0 B X Y) (k : Keep2 B0 B Y Z) : Keep2 B0 B X Z := ⟨k.one.trans h.one, fun i hi => (k.all i hi).trans (h.all i hi)⟩
theorem Keep2.below {B0 B : Nat} {A C : World} (h : Below A.heap.size A C) (hB : B < A.heap.size) (hB0 : B0 ≤ A.heap.size) : Keep2 B0 B A C := ⟨h.block B hB, fun k hk => h.block k (by omega)⟩
theorem cell_same {A C : World} {B o : Nat} (h : C.heap[B]? = A.heap[B]?) : C.cell? ⟨B, o, none⟩ = A.cell? ⟨B, o, none⟩ := by simp only [World.cell?, h]
theorem nums_same {A C : World} {a : Option Addr} {p : Int} {zs : List Int} (h : Nums A a p zs) (hk : ∀ k, k < A.heap.size → C.heap[k]? = A.heap[k]?) : Nums C a p zs := by
  rcases h with h | ⟨b, ha, hc⟩
  · exact .inl h
  · refine .inr ⟨b, ha, fun i hi => ?_⟩
    obtain ⟨h0, h1⟩ := hc i hi
    have hb := World.block_lt_of_cell? _ _ h0
    exact ⟨(cell_same (hk b hb)).trans h0, (cell_same (hk b hb)).trans h1⟩

set_option maxRecDepth 100000 in
theorem backward_any (a : Option Addr) (n c : Nat) (w : World) : Calls Tryd.prog 88 #[.slice a n c] w fun e w' => e = .returned (.func (.func 119) #[] #[.pointer (some ⟨w.heap.size, 0, none⟩)]) ∧ w' = w.alloc (.cells #[.slice a n c] 84) := by
  have hmf : ∀ (fn : Fn) (first cap : Array Value) (w : World), (Instr.makeFunc fn first cap).run Tryd.prog w = .ok (.func fn first cap) w := fun _ _ _ _ => rfl
  go_enter Tryd.func88, Tryd.ntmps88
  go_wp2_with fail
  go_ret
  exact ⟨rfl, rfl⟩

set_option maxRecDepth 100000 in
set_option maxHeartbeats 2000000 in
theorem back_stops (n B : Nat) (p : Int) (a : Option Addr) (zs : List Int) (c : Nat) (w0 w : World) (he : ∀ i, Elem p (nth zs i)) (hc : w.cell? ⟨B, 0, none⟩ = some (.slice a zs.length c)) (hB : B < w.heap.size) (hz : Nums w0 a p zs) (hk0 : ∀ k, k < w0.heap.size → w.heap[k]? = w0.heap[k]?) (hs0 : w0.heap.size ≤ w.heap.size) (hl : zs.length ≤ 1000) :
    SeqStopsK Fence.wide n Tryd.prog 119 #[.pointer (some ⟨B, 0, none⟩)] (encB p) (Keep2 w0.heap.size B) (fun ys => ys = backs zs he) (fun _ => True) zs.length w := by
  intro l J Jx W hW _ _ hY h0
  have hdd : ∀ k : Nat, (Fence.wide.depth.isSome = true → 1 ≤ k) := fun k h => by cases h
  have hcW := (hW.cell (p := ⟨B, 0, none⟩) hB).trans hc
  have HKW := Lib.hid (show ∀ k, k < w0.heap.size → W.heap[k]? = w0.heap[k]? from fun k hk => (hW.block k (by omega)).trans (hk0 k hk))
  have HZ := Lib.hid hz
  have HY := Lib.hid hY
  have H0 := Lib.hid h0
  clear hY h0 hW hk0 hc hz
  refine callsIn_of_wp Tryd.func119 rfl trivial ?_ rfl
  simp only [Tryd.ntmps119, List.size_toArray, List.length_cons, List.length_nil, Nat.reduceAdd, Nat.reduceSub, Array.replicate_succ, Array.replicate_zero, List.push_toArray, List.append_toArray, List.nil_append, List.cons_append]
  gi_wp2_with fail
  gi_loopw [3] (fun i wr => ∃ (q : Int) (k : Nat), q + 1 + k = zs.length ∧ -1 ≤ q ∧ i = .int .i64 q ∧ J ((backs zs he).take k) wr ∧ wr.cell? ⟨B, 0, none⟩ = some (.slice a zs.length c) ∧ ∀ k, k < w0.heap.size → wr.heap[k]? = w0.heap[k]?)
    (fun i _ => (intOf i + 1).toNat)
  case atStart => exact ⟨(zs.length : Int) - 1, 0, by omega, by omega, rfl, by simpa using H0.out, hcW, HKW.out⟩
  case round =>
    obtain ⟨q, k, hqk, hq1, rfl, hJ, hcb, hkw⟩ := hrel
    by_cases hq : q = -1
    · subst hq
      have HE := Lib.hid (show (backs zs he).take k = backs zs he from List.take_of_length_le (by rw [backs_len]; omega))
      have HJ := Lib.hid hJ
      clear hJ hkw
      gi_wp2
      go_end0
      refine ⟨⟨_, rfl⟩, .inl ⟨_, rfl, ?_⟩⟩
      rw [← HE.out]; exact HJ.out
    · obtain ⟨j, rfl⟩ : ∃ j : Nat, q = j := ⟨q.toNat, by omega⟩
      have hkl : k < zs.length := by omega
      have hjk : zs.length - 1 - k = j := by omega
      have h0j : (0 : Int) ≤ (j : Int) := by omega
      have hjl : (j : Int) < (zs.length : Int) := by omega
      have hzw := nums_same HZ.out hkw
      rcases hzw with h | ⟨b, rfl, hcc⟩
      · rw [h] at hkl; exact absurd hkl (Nat.not_lt_zero _)
      obtain ⟨d0, d1⟩ := hcc j (by omega)
      have HT := Lib.hid (backs_take he hkl)
      obtain ⟨x, hx⟩ : ∃ x : Co p, x = ⟨(zs.length - 1 - k, nth zs (zs.length - 1 - k)), he _⟩ := ⟨_, rfl⟩
      have hx1 : x.1.1 = j := by rw [hx]; exact hjk
      have hx2 : x.1.2 = nth zs j := by rw [hx]; show nth zs (zs.length - 1 - k) = nth zs j; rw [hjk]
      rw [← hx] at HT
      obtain ⟨fn, tmps, assign, body, hy, hR⟩ := HY.out ((backs zs he).take k) x wr hJ (by rw [List.length_take, backs_len]; omega)
      dsimp only [encB] at hy
      rw [hx1, hx2] at hy
      have HKQ := Lib.hid hkw
      clear hJ hcc hkw hx hx1 hx2 H0 HKW hcW
      gi_wp2_with (first | ((try refine ⟨hdd _, ?_⟩); refine hR.mono ?_; clear hR; rintro e W2 (⟨rfl, hJ2, hK2⟩ | ⟨rfl, hx2⟩)))
      · refine ⟨⟨(j : Int) - 1, k + 1, by omega, by omega, by first | rfl | simp, ?_, ?_, ?_⟩, by first | (simp [intOf]; done) | (simp [intOf]; omega)⟩
        · rw [HT.out]; exact hJ2
        · exact (cell_same hK2.one).trans hcb
        · exact fun i hi => (hK2.all i hi).trans (HKQ.out i hi)
      · refine bodyPost_ret (results_none rfl _ _ _) rfl ?_
        exact ⟨⟨_, rfl⟩, .inr ⟨_, trivial, hx2⟩⟩

/-- The value of a curve whose items come from the last one on. -/
def hor (p x : Int) (l : List Int) : Int := l.foldl (fun v c => (v * x + c) % p) 0
theorem hor_snoc (p x : Int) (l : List Int) (c : Int) : hor p x (l ++ [c]) = (hor p x l * x + c) % p := by simp [hor, List.foldl_append]
theorem hor_elem {p : Int} (hp : 2 ≤ p) (x : Int) (l : List Int) : Elem p (hor p x l) := by
  rcases List.eq_nil_or_concat l with rfl | ⟨l', c, rfl⟩
  · exact ⟨Int.le_refl _, by show (0 : Int) < p; omega⟩
  · rw [List.concat_eq_append, hor_snoc]; exact mod_elem hp _
theorem boxes_kept {W W' : World} {row : Option Nat} {B : Nat} {t : TypeId} {vs : Array Value} (h : Boxes W B t vs) (hg : W.grownBy W' row) (hr : ∀ r, row = some r → ∃ o : Obj, W.heap[r]? = some o ∧ o.isCells = false) : Boxes W' B t vs := by
  refine (hg.block B h.lt (fun e => ?_)).trans h
  obtain ⟨o, ho, hc⟩ := hr B e.symm
  rw [show W.heap[B]? = _ from h] at ho
  cases ho
  cases hc
theorem boxes_other {W : World} {B q o : Nat} {t : TypeId} {vs : Array Value} (h : Boxes W B t vs) (hne : B ≠ q) (u : Value) : Boxes (W.setCell ⟨q, o, none⟩ u) B t vs := (Below.heap_setCell W ⟨q, o, none⟩ u B hne).trans h
theorem Keep2.set (A : World) {B0 B q : Nat} (o : Nat) (h0 : B0 ≤ q) (hne : B ≠ q) (u : Value) : Keep2 B0 B A (A.setCell ⟨q, o, none⟩ u) := ⟨Below.heap_setCell A ⟨q, o, none⟩ u B hne, fun k hk => Below.heap_setCell A ⟨q, o, none⟩ u k (by show k ≠ q; omega)⟩
/-- What lies where 'at' works. -/
structure AtI (w : World) (B5 : Nat) (p x v : Int) (W : World) : Prop where
  sz : B5 + 2 ≤ W.heap.size
  bel : Below w.heap.size w W
  bx : Boxes W w.heap.size 82 #[.int .i64 p, .int .i64 x]
  br : Boxes W (w.heap.size + 1) 82 #[.int .i64 0, .int .i64 0]
  bv : Boxes W B5 82 #[.int .i64 p, .int .i64 v]
theorem AtI.step {w W W' : World} {B5 : Nat} {p x v : Int} (h : AtI w B5 p x v W) (hb : Below W.heap.size W W') : AtI w B5 p x v W' :=
  ⟨Nat.le_trans h.sz hb.size, h.bel.trans (hb.mono h.bel.size), h.bx.step hb, h.br.step hb, h.bv.step hb⟩
theorem AtI.own {w : World} {B5 B : Nat} {p x : Int} (f : List (Co p) → Int) (hB : w.heap.size ≤ B) : OwnFrom B (fun pre W => AtI w B5 p x (f pre) W) := by
  intro pre W W' row hs hg hr
  have hr' : ∀ r, row = some r → ∃ o : Obj, W.heap[r]? = some o ∧ o.isCells = false := fun r e => (hr r e).2
  exact ⟨Nat.le_trans hs.sz hg.size, hs.bel.grown hg hs.bel.size (fun k hk => by have := (hr k hk).1; omega), boxes_kept hs.bx hg hr', boxes_kept hs.br hg hr', boxes_kept hs.bv hg hr'⟩

set_option maxRecDepth 100000 in
set_option maxHeartbeats 4000000 in
theorem cat_any (p x : Int) (a : Option Addr) (zs : List Int) (c : Nat) (w : World) (h : Nums w a p zs) (hl : zs.length ≤ 1000) (hp : 2 ≤ p) (hp1 : p ≤ 31) (hx : Elem p x) (he : Elems p zs) :
    Calls Tryd.prog 51 #[.slice a zs.length c, .agg #[.int .i64 p, .int .i64 x]] w fun e w' => e = .returned (.agg #[.int .i64 p, .int .i64 (hor p x zs.reverse)]) ∧ Below w.heap.size w w' := by
  have hall : ∀ i, Elem p (nth zs i) := nth_bound hp he
  rw [← backs_vals zs hall]
  have HN := Lib.hid h
  have HX := Lib.hid hx
  have hb0 := ((Below.refl w.heap.size w).alloc (Nat.le_refl _) (.cells #[.int .i64 p, .int .i64 x] 82)).alloc (by simp) (.cells #[.int .i64 0, .int .i64 0] 82)
  have hx5 : Boxes ((w.alloc (.cells #[.int .i64 p, .int .i64 x] 82)).alloc (.cells #[.int .i64 0, .int .i64 0] 82)) w.heap.size 82 #[.int .i64 p, .int .i64 x] := Boxes.step (World.alloc_heap_new w _) ((Below.refl _ _).alloc (Nat.le_refl _) (.cells #[.int .i64 0, .int .i64 0] 82))
  have hx6 : Boxes ((w.alloc (.cells #[.int .i64 p, .int .i64 x] 82)).alloc (.cells #[.int .i64 0, .int .i64 0] 82)) (w.heap.size + 1) 82 #[.int .i64 0, .int .i64 0] := by
    have : Boxes ((w.alloc (.cells #[.int .i64 p, .int .i64 x] 82)).alloc (.cells #[.int .i64 0, .int .i64 0] 82)) (w.alloc (.cells #[.int .i64 p, .int .i64 x] 82)).heap.size 82 #[.int .i64 0, .int .i64 0] := World.alloc_heap_new _ _
    simp only [World.size_alloc] at this
    exact this
  clear h hx
  refine (callsIn_wide (n := 9)).1 ?_
  have hdd : ∀ k : Nat, (Fence.wide.depth.isSome = true → 1 ≤ k) := fun k h => by cases h
  refine callsIn_of_wp_marks Tryd.func51 rfl trivial ?_ rfl
  simp only [Tryd.ntmps51, List.size_toArray, List.length_cons, List.length_nil, Nat.reduceAdd, Nat.reduceSub, Array.replicate_succ, Array.replicate_zero, List.push_toArray, List.append_toArray, List.nil_append, List.cons_append]
  gi_wp2_with (refine ⟨trivial, ?_⟩; gi_at_call 52; refine (callsIn_wide.2 (number_any p 0 _)).mono ?_; rintro e w1 ⟨rfl, hb1⟩)
  have hsz2 : ((w.alloc (.cells #[.int .i64 p, .int .i64 x] 82)).alloc (.cells #[.int .i64 0, .int .i64 0] 82)).heap.size = w.heap.size + 2 := by simp
  generalize (w.alloc (.cells #[.int .i64 p, .int .i64 x] 82)).alloc (.cells #[.int .i64 0, .int .i64 0] 82) = w2 at *
  have hb01 := hb0.trans (hb1.mono hb0.size)
  have hx51 := hx5.step hb1
  have hx61 := hx6.step hb1
  have hs1 : w.heap.size + 2 ≤ w1.heap.size := by have := hb1.size; omega
  have hA : Below w1.heap.size w1 ((w1.alloc (.cells #[.int .i64 p, .int .i64 0] 82)).alloc (.cells #[.slice a zs.length c] 84)) := ((Below.refl w1.heap.size w1).alloc (Nat.le_refl _) _).alloc (by simp) _
  have hv5 : Boxes ((w1.alloc (.cells #[.int .i64 p, .int .i64 0] 82)).alloc (.cells #[.slice a zs.length c] 84)) w1.heap.size 82 #[.int .i64 p, .int .i64 0] := Boxes.step (World.alloc_heap_new w1 _) ((Below.refl _ _).alloc (Nat.le_refl _) _)
  have hbox : ((w1.alloc (.cells #[.int .i64 p, .int .i64 0] 82)).alloc (.cells #[.slice a zs.length c] 84)).cell? ⟨w1.heap.size + 1, 0, none⟩ = some (.slice a zs.length c) := by simp
  have hs5 : ((w1.alloc (.cells #[.int .i64 p, .int .i64 0] 82)).alloc (.cells #[.slice a zs.length c] 84)).heap.size = w1.heap.size + 2 := by simp
  clear hb0 hx5 hx6 hb1 hsz2
  refine ⟨trivial, ?_⟩
  refine (callsIn_wide.2 (backward_any a zs.length c _)).mono ?_
  rintro e w' ⟨rfl, rfl⟩
  rw [show (w1.alloc (.cells #[.int .i64 p, .int .i64 0] 82)).heap.size = w1.heap.size + 1 by simp]
  generalize (w1.alloc (.cells #[.int .i64 p, .int .i64 0] 82)).alloc (.cells #[.slice a zs.length c] 84) = w5 at *
  have hb5 := hb01.trans (hA.mono hb01.size)
  have hinv0 : AtI w w1.heap.size p x (hor p x (([] : List (Co p)).map (fun x => x.1.2))) w5 := ⟨by omega, hb5, hx51.step hA, hx61.step hA, hv5⟩
  have HI0 := Lib.hid hinv0
  clear hinv0 hx51 hx61 hv5 hA hb01
  gi_wp2_with fail
  refine wpIn_rangeFunc_ownH rfl (by decide) (gf := 119) (lb := #[.pointer (some ⟨w1.heap.size + 1, 0, none⟩)]) rfl trivial (enters_of Tryd.func119 (by kernel_rfl) rfl)
    (back_stops 8 (w1.heap.size + 1) p a zs c w w5 hall hbox (by omega) HN.out hb5.block (by omega) hl) (fun h k => Keep2.trans h k) ?kb (Below.refl _ _) (fun _ => rfl)
    (fun pre W => AtI w w1.heap.size p x (hor p x (pre.map (fun x => x.1.2))) W)
    (fun _ _ _ => False)
    (AtI.own _ (by omega))
    (fun _ _ _ _ _ hs _ _ => hs)
    HI0.out
    (fun y a' W => ∃ B7, w5.heap.size ≤ B7 ∧ a' = { tmps := #[.slice a zs.length c, .agg #[.int .i64 p, .int .i64 x], undef, .pointer (some ⟨w.heap.size, 0, none⟩), .pointer (some ⟨w.heap.size + 1, 0, none⟩), .pointer (some ⟨w1.heap.size, 0, none⟩), undef, .pointer (some ⟨B7, 0, none⟩), .pointer (some ⟨w.heap.size, 0, none⟩), .int .i64 p, .agg #[.int .i64 p, .int .i64 0], .slice a zs.length c, .func (.func 119) #[] #[.pointer (some ⟨w1.heap.size + 1, 0, none⟩)], .int .i64 (y.1.1 : Int), .agg #[.int .i64 p, .int .i64 y.1.2], undef, undef, undef, undef, undef, undef], defers := [] } ∧ Boxes W B7 82 #[.int .i64 p, .int .i64 y.1.2])
    ?ax ?assign ?body ?done ?stop
  case kb =>
    intro W l o o' hl1 hWl _ _
    have hlt := (Array.getElem?_eq_some_iff.1 hWl).1
    refine ⟨?_, fun k hk => ?_⟩
    · exact (grownBy_putObj' W l o').block _ (by omega) (fun e => by cases e; omega)
    · exact (grownBy_putObj' W l o').block _ (by omega) (fun e => by cases e; omega)
  case ax =>
    intro y a' _ W W' row hs hg hr
    obtain ⟨B7, h1, h2, h3⟩ := hs
    exact ⟨B7, h1, h2, boxes_kept h3 hg (fun r e => (hr r e).2)⟩
  case assign =>
    intro l pre y W K hI hK
    dsimp only [encB]
    have hsz := hI.sz
    have hsz2 := hI.bel.size
    gi_wp2_with fail
    exact hK _ _ (KeepsFrom.of_grownBy (World.grownBy_alloc W _ none) (fun j e => by cases e)) (Keep2.below ((Below.refl _ _).alloc (Nat.le_refl _) _) (by omega) (by omega)) (hI.step ((Below.refl _ _).alloc (Nat.le_refl _) _)) ⟨W.heap.size, by omega, rfl, World.alloc_heap_new _ _⟩
  case body =>
    intro l pre y a' W hl1 hrec hI hA hlt
    obtain ⟨B7, hB7, rfl, hb7⟩ := hA
    have hmx : Tryd.prog.follows .mixedOrders = true := by kernel_rfl
    have hve := hor_elem hp x (pre.map (fun x => x.1.2))
    have HR := Lib.hid (show hor p x ((pre ++ [y]).map (fun x => x.1.2)) = (hor p x (pre.map (fun x => x.1.2)) * x + y.1.2) % p by rw [List.map_append, List.map_cons, List.map_nil, hor_snoc])
    have hye := y.2
    generalize hv : hor p x (pre.map (fun x => x.1.2)) = v at *
    generalize hyv : y.1.2 = yv at *
    have c50 := hI.bv.c0
    have c51 := hI.bv.c1
    have f50 := hI.bv.frozen 0
    have f51 := hI.bv.frozen 1
    have cx0 := hI.bx.c0
    have cx1 := hI.bx.c1
    have c70 := hb7.c0
    have c71 := hb7.c1
    have hl5 := hI.bv.lt
    have HI := Lib.hid hI
    have HB7 := Lib.hid hb7
    have HVE := Lib.hid hve
    have HYE := Lib.hid hye
    clear hI hb7 hrec hve hye hv hyv hbox hb5 HI0
    gi_wp2_with fail
    gi_region_with (first
      | (refine ⟨trivial, ?_⟩; gi_at_call 89; refine (callsIn_wide.2 (times_any p v x _ hp hp1 HVE.out HX.out)).mono ?_; rintro e w8 ⟨rfl, hb8⟩; have z70 := cell_step hb8 (cell_step (drew_step _) c70); have z71 := cell_step hb8 (cell_step (drew_step _) c71))
      | (refine ⟨trivial, ?_⟩; gi_at_call 90; refine (callsIn_wide.2 (plus_any p (v * x % p) yv _ hp hp1 (mod_elem hp _) HYE.out)).mono ?_; rintro e w9 ⟨rfl, hb9⟩; have HB9 := Lib.hid (((drew_step W).trans (hb8.mono (drew_step W).size)).trans (hb9.mono (Nat.le_trans (drew_step W).size hb8.size))); have y50 := cell_step HB9.out c50; have y51 := cell_step HB9.out c51; have g50 := (HB9.out.frozen (p := ⟨w1.heap.size, 0, none⟩) hl5).trans f50; have g51 := (HB9.out.frozen (p := ⟨w1.heap.size, 1, none⟩) hl5).trans f51; have gl := Nat.lt_of_lt_of_le hl5 HB9.out.size))
    all_goals (
      show KeepsFrom w5.heap.size W _ ∧ Keep2 w.heap.size (w1.heap.size + 1) W _ ∧ AtI w w1.heap.size p x (hor p x ((pre ++ [y]).map (fun x => x.1.2))) _
      have hsz := HI.out.sz
      have hbs := HI.out.bel.size
      refine ⟨(((keepsBelow HB9.out).trans (KeepsOthers.setCell _ _ _)).trans (KeepsOthers.setCell _ _ _)).from _, ((Keep2.below HB9.out (by omega) (by omega)).trans (Keep2.set _ _ (by omega) (by omega) _)).trans (Keep2.set _ _ (by omega) (by omega) _), ?_⟩
      rw [HR.out]
      exact ⟨by simp only [World.size_setCell]; have := HB9.out.size; omega, ((HI.out.bel.trans (HB9.out.mono hbs)).setCell (p := ⟨w1.heap.size, 0, none⟩) (by show w.heap.size ≤ w1.heap.size; omega) _).setCell (p := ⟨w1.heap.size, 1, none⟩) (by show w.heap.size ≤ w1.heap.size; omega) _, boxes_other (boxes_other (HI.out.bx.step HB9.out) (by omega) _) (by omega) _, boxes_other (boxes_other (HI.out.br.step HB9.out) (by omega) _) (by omega) _, (HI.out.bv.step HB9.out).set2 _ _⟩)
  case done =>
    intro D ys W hD rfl hI hK
    have c0 := hI.bv.c0
    have c1 := hI.bv.c1
    have f0 := hI.br.frozen 0
    have f1 := hI.br.frozen 1
    have r0 := hI.br.c0
    have r1 := hI.br.c1
    have hlr := hI.br.lt
    have HI := Lib.hid hI
    have HK := Lib.hid hK
    generalize hv : hor p x ((backs zs hall).map (fun x => x.1.2)) = v at *
    have HV := Lib.hid hv
    clear hI hK hbox hb5 HI0 hv
    gi_wp2_with fail
    have hsz := HI.out.sz
    have k3 : ((W.setCell ⟨w.heap.size + 1, 0, none⟩ (.int .i64 p)).setCell ⟨w.heap.size + 1, 1, none⟩ (.int .i64 v)).heap[D]? = some (.deferred (some [])) :=
      (Below.heap_setCell _ _ _ _ (by show D ≠ w.heap.size + 1; omega)).trans ((Below.heap_setCell _ _ _ _ (by show D ≠ w.heap.size + 1; omega)).trans HK.out)
    have hb3 := boxes_kept (HI.out.br.set2 (.int .i64 p) (.int .i64 v)) (grownBy_putObj' _ D (.deferred none)) (fun r e => by cases e; exact ⟨_, k3, rfl⟩)
    have hbb : Below w.heap.size w ((W.setCell ⟨w.heap.size + 1, 0, none⟩ (.int .i64 p)).setCell ⟨w.heap.size + 1, 1, none⟩ (.int .i64 v)) := (HI.out.bel.setCell (p := ⟨w.heap.size + 1, 0, none⟩) (by show w.heap.size ≤ w.heap.size + 1; omega) _).setCell (p := ⟨w.heap.size + 1, 1, none⟩) (by show w.heap.size ≤ w.heap.size + 1; omega) _
    have hbe := hbb.grown (grownBy_putObj' _ D (.deferred none)) hbb.size (fun k e => by cases e; omega)
    have d0 := hb3.c0
    have d1 := hb3.c1
    refine ⟨by simp, .inl ⟨_, _, rfl, run_takeDeferred k3, ?_⟩⟩
    refine ⟨.agg #[.int .i64 p, .int .i64 v], ?_, ?_⟩
    · simp only [results]
      go_simp
    · exact ⟨by rw [HV.out], hbe⟩
  case stop =>
    intro D c pre W _ _ hh _
    exact hh.elim
end Go.Proofs.YtgndekojodpmkaaDoor
