/- The program's newTable. -/
import Derived.Test.YtnebkhelobpkpaaDoorNt
namespace Go.Proofs.YtnebkhelobpkpaaDoor
open Go.RowKit Go.Deep Go.Shelf
set_option linter.unusedVariables false
attribute [local go_sem] Oper.semAt_some

/-- What lies where 'newTable' works. -/
structure InvT (w : World) (h : Nat) (u : Value) (q : Nat → Bool) (W : World) : Prop where
  bel : Below w.heap.size w W
  sz : w.heap.size + 4 ≤ W.heap.size
  op : W.cell? ⟨w.heap.size, 0, none⟩ = some u
  tp : W.cell? ⟨w.heap.size + 1 + 1, 0, none⟩ = some (.pointer (some ⟨w.heap.size + 1, 0, none⟩))
  tab : TableAt W (w.heap.size + 1) h q

theorem TableAt.kept {W W' : World} {row : Option Nat} {T h : Nat} {q : Nat → Bool} (ht : TableAt W T h q) (hg : W.grownBy W' row) (hr' : ∀ r, row = some r → ∃ o : Obj, W.heap[r]? = some o ∧ o.isCells = false) : TableAt W' T h q := by
  refine ⟨cell_kept ht.h0 hg hr', fun x hx => cell_kept (ht.cell x hx) hg hr', fun o => ?_⟩
  have hb : W'.heap[T]? = W.heap[T]? := by
    refine hg.block _ (World.block_lt_of_cell? _ _ ht.h0) (fun e => ?_)
    obtain ⟨ob, h1, h2⟩ := hr' _ e.symm
    have h3 := ht.h0
    simp only [World.cell?, h1] at h3
    cases ob <;> simp_all [Obj.isCells]
  rw [World.frozen?_of_block (w := W) (a := ⟨T, o, none⟩) hb]
  exact ht.free o
theorem TableAt.step {W W' : World} {T h : Nat} {q : Nat → Bool} (ht : TableAt W T h q) (hb : Below W.heap.size W W') : TableAt W' T h q := ht.below hb (World.block_lt_of_cell? _ _ ht.h0)

theorem InvT.own {w : World} {h : Nat} {u : Value} {q : List G7 → Nat → Bool} {B : Nat} (hB : w.heap.size ≤ B) : OwnFrom B (fun pre W => InvT w h u (q pre) W) := by
  intro pre W W' row hs hg hr
  have hr' : ∀ r, row = some r → ∃ o : Obj, W.heap[r]? = some o ∧ o.isCells = false := fun r e => (hr r e).2
  exact ⟨hs.bel.grown hg hs.bel.size (fun k hk => by have := (hr k hk).1; omega), Nat.le_trans hs.sz hg.size, cell_kept hs.op hg hr', cell_kept hs.tp hg hr', hs.tab.kept hg hr'⟩
theorem InvT.step {w W W' : World} {h : Nat} {u : Value} {q : Nat → Bool} (hs : InvT w h u q W) (hb : Below W.heap.size W W') : InvT w h u q W' :=
  ⟨chain2 hs.bel hb hs.bel.size, Nat.le_trans hs.sz hb.size, cell_step hb hs.op, cell_step hb hs.tp, hs.tab.step hb⟩
theorem InvT.mark {w W : World} {h : Nat} {u : Value} {q : Nat → Bool} (hs : InvT w h u q W) (x : Nat) (hx : x < 128) (b : Bool) :
    InvT w h u (fun y => if y = x then b else q y) (W.setCell ⟨w.heap.size + 1, 1 + x, none⟩ (.bool b)) := by
  refine ⟨hs.bel.setCell (by simp <;> omega) _, by simpa [World.setCell] using hs.sz, ?_, ?_, ?_, fun y hy => ?_, fun o => ?_⟩
  · rw [World.cell?_setCell_other _ _ _ _ (by simp <;> omega)]; exact hs.op
  · rw [World.cell?_setCell_other _ _ _ _ (by simp <;> omega)]; exact hs.tp
  · rw [World.cell?_setCell_other _ _ _ _ (by simp <;> omega)]; exact hs.tab.h0
  · by_cases e : y = x
    · subst e
      rw [if_pos rfl]
      exact World.cell?_setCell_same _ _ _ (hs.tab.cell y hy)
    · rw [if_neg e, World.cell?_setCell_other _ _ _ _ (by simp <;> omega)]; exact hs.tab.cell y hy
  · rw [World.frozen?_setCell]; exact hs.tab.free o
theorem InvT.alike {w W : World} {h : Nat} {u : Value} {q q' : Nat → Bool} (hs : InvT w h u q W) (e : ∀ x, x < 128 → q x = q' x) : InvT w h u q' W :=
  ⟨hs.bel, hs.sz, hs.op, hs.tp, hs.tab.h0, fun x hx => by rw [← e x hx]; exact hs.tab.cell x hx, hs.tab.free⟩
theorem InvT.init (w : World) (h : Nat) (u : Value) (p : Nat → Bool) (t1 t2 t3 t4 : TypeId) :
    InvT w h u (seenBy p []) ((((w.alloc (Obj.cells #[u] t1)).alloc (Obj.cells (#[.int .i64 (h : Nat)] ++ Array.replicate 128 (.bool false)) t2)).alloc (Obj.cells #[Value.pointer (some { block := w.heap.size + 1, off := 0 })] t3)).alloc (Obj.cells #[Value.int .i64 (h : Nat)] t4)) := by
  refine ⟨(((((Below.refl _ w).alloc (Nat.le_refl _) _).alloc (by simp) _).alloc (by simp <;> omega) _).alloc (by simp <;> omega) _), by simp, by simp [go_sem], by simp [go_sem], ⟨by simp [go_sem], fun x hx => ?_, fun o => by simp [go_sem]⟩⟩
  have e : seenBy p [] x = false := by simp [seenBy]
  rw [e, World.cell?_alloc_past _ _ _ (by simp), World.cell?_alloc_past _ _ _ (by simp), World.cell?_alloc_at _ _ _ _ (by simp)]
  rw [Array.getElem?_append_right (by simp)]
  simp [hx]

/-- What gives a table. -/
structure GivesTab (W : World) (h : Nat) (q : Nat → Bool) (e : Ending) (w' : World) : Prop where
  val : ∃ T, e = .returned (.pointer (some ⟨T, 0, none⟩)) ∧ W.heap.size ≤ T ∧ TableAt w' T h q
  below : Below W.heap.size W w'

set_option maxRecDepth 100000 in
set_option maxHeartbeats 4000000 in
theorem newTable_any (h : Nat) (a : Option Addr) (l : List Nat) (c : Nat) (w : World) (h1 : 1 ≤ h) (h7 : h ≤ 7) (hs : Sets w a l) (hall : ∀ i, i < l.length → nthN l i < 128) (hl : l.length ≤ 9223372036854775807) :
    Calls Tryd.prog 125 #[.int .i64 (h : Nat), .slice a l.length c] w (GivesTab w h (seenBy (anyIn l) (lexAll h))) := by
  have HS := Lib.hid hs
  have HA := Lib.hid hall
  clear hs hall
  refine (callsIn_wide (n := 9)).1 ?_
  have hdd : ∀ k : Nat, (Fence.wide.depth.isSome = true → 1 ≤ k) := fun k h => by cases h
  refine callsIn_of_wp_marks Tryd.func125 rfl trivial ?_ rfl
  simp only [Tryd.ntmps125, List.size_toArray, List.length_cons, List.length_nil, Nat.reduceAdd, Nat.reduceSub, Array.replicate_succ, Array.replicate_zero, List.push_toArray, List.append_toArray, List.nil_append, List.cons_append]
  gi_wp2_with (refine ⟨trivial, ?_⟩; gi_at_call 81; refine (callsIn_wide.2 (groupsOf_any _ _)).mono ?_; rintro e w' ⟨rfl, rfl⟩)
  have hz : Tryd.zeroCells131.setIfInBounds 0 (Value.int .i64 (h : Nat)) = #[.int .i64 (h : Nat)] ++ Array.replicate 128 (.bool false) := tableInit h
  rw [hz]
  have hinv0 : InvT w h (.slice a l.length c) (seenBy (anyIn l) []) ((((w.alloc (Obj.cells #[.slice a l.length c] 175)).alloc (Obj.cells (#[.int .i64 (h : Nat)] ++ Array.replicate 128 (.bool false)) 131)).alloc (Obj.cells #[Value.pointer (some { block := w.heap.size + 1, off := 0 })] 71)).alloc (Obj.cells #[Value.int .i64 (h : Nat)] 2)) := InvT.init w h _ _ _ _ _ _
  have hbox : ((((w.alloc (Obj.cells #[.slice a l.length c] 175)).alloc (Obj.cells (#[.int .i64 (h : Nat)] ++ Array.replicate 128 (.bool false)) 131)).alloc (Obj.cells #[Value.pointer (some { block := w.heap.size + 1, off := 0 })] 71)).alloc (Obj.cells #[Value.int .i64 (h : Nat)] 2)).cell? ⟨w.heap.size + 1 + 1 + 1, 0, none⟩ = some (.int .i64 (h : Nat)) := by
    simp [go_sem]
  have hsz : ((((w.alloc (Obj.cells #[.slice a l.length c] 175)).alloc (Obj.cells (#[.int .i64 (h : Nat)] ++ Array.replicate 128 (.bool false)) 131)).alloc (Obj.cells #[Value.pointer (some { block := w.heap.size + 1, off := 0 })] 71)).alloc (Obj.cells #[Value.int .i64 (h : Nat)] 2)).heap.size = w.heap.size + 4 := by
    simp
  generalize ((((w.alloc (Obj.cells #[.slice a l.length c] 175)).alloc (Obj.cells (#[.int .i64 (h : Nat)] ++ Array.replicate 128 (.bool false)) 131)).alloc (Obj.cells #[Value.pointer (some { block := w.heap.size + 1, off := 0 })] 71)).alloc (Obj.cells #[Value.int .i64 (h : Nat)] 2)) = w0 at hinv0 hbox hsz ⊢
  refine wpIn_rangeFunc_ownH rfl (by decide) (gf := 126) (lb := #[.pointer (some ⟨w.heap.size + 1 + 1 + 1, 0, none⟩)]) rfl trivial (enters_of Tryd.func126 (by kernel_rfl) rfl)
    (groups_stops 8 h (w.heap.size + 1 + 1 + 1) w0 h7 (by omega) hbox) (fun _ _ => trivial) (fun _ _ _ _ _ _ _ _ => trivial) (Below.refl _ _) (fun _ => rfl)
    (fun pre W => InvT w h (.slice a l.length c) (seenBy (anyIn l) pre) W)
    (fun _ _ _ => False)
    (InvT.own (by omega))
    (fun _ _ _ _ _ hs _ _ => hs)
    hinv0
    (fun x a' W => ∃ Bx, w.heap.size + 3 < Bx ∧ Boxed W Bx 89 (.int .u64 (x.val : Int)) ∧ a' = { tmps := #[.int .i64 (h : Nat), .slice a l.length c, undef, .pointer (some ⟨w.heap.size, 0, none⟩), .pointer none, .pointer (some ⟨w.heap.size + 1 + 1, 0, none⟩), .pointer (some ⟨Bx, 0, none⟩), .int .i64 (h : Nat), .agg (#[.int .i64 (h : Nat)] ++ Array.replicate 128 (.bool false)), .pointer (some ⟨w.heap.size + 1, 0, none⟩), .int .i64 (h : Nat), .func (.func 126) #[] #[.pointer (some ⟨w.heap.size + 1 + 1 + 1, 0, none⟩)], .int .u64 (x.val : Int), undef, undef, undef, undef, undef, undef, undef, undef, undef], defers := [] })
    (fun x a' _ W W' row ⟨Bx, h1, h2, h3⟩ hg hr => ⟨Bx, h1, Boxed.free h2 hg (fun r e => (hr r e).2), h3⟩)
    ?assign ?body ?done ?stop
  case assign =>
    intro l' pre x W K hI hK
    generalize (Value.agg (#[.int .i64 (h : Nat)] ++ Array.replicate 128 (.bool false))) = agg at hK ⊢
    dsimp only [encG]
    have hlt : w.heap.size + 3 < W.heap.size := hI.sz
    have hI' := hI.step ((Below.refl W.heap.size W).alloc (Nat.le_refl _) (.cells #[.int .u64 (x.val : Int)] 89))
    have HI := Lib.hid hI'
    clear hI hI' hinv0 hbox hsz
    gi_wp2
    exact hK _ _ ((KeepsOthers.alloc _ _).from _) trivial HI.out ⟨W.heap.size, hlt, Boxed.new W _ _, rfl⟩
  case body =>
    rintro lr pre x a' W hlw hlr hI ⟨Bx, hBx, hbx, rfl⟩ hlt
    have hx := x.isLt
    have hxi : ((x.val : Nat) : Int) < 128 := by omega
    generalize (Value.agg (#[.int .i64 (h : Nat)] ++ Array.replicate 128 (.bool false))) = agg
    have hmx : Tryd.prog.follows .mixedOrders = true := by kernel_rfl
    have p0 := hI.op
    have p1 := hI.tp
    have p2 := hbx.cell
    have pf := hI.tab.free (1 + x.val)
    have pc := hI.tab.cell x.val hx
    have HCF := Lib.hid (containsFunc_any a l c Bx x.val W.drew (HS.out.below' (hI.bel.drew)) HA.out hl hx p2)
    have HI := Lib.hid hI
    clear hI hinv0 hbox hsz hbx hlr hlw
    gi_wp2
    refine wpIn_region_round lr rfl (by kernel_rfl) hmx ?_
    refine wpAnyIn_take (i := 3) (v := ?_) rfl rfl (by kernel_rfl) (by kernel_rfl) (by kernel_rfl) (fun _ _ _ h => h) ⟨Or.inl ⟨by rfl, by intro w; go_simp; try with_reducible rfl⟩, fun _ => rfl⟩ ?_
    refine wpAnyIn_ready (rs := [0, 1, 2]) (by kernel_rfl) (by simp) ?_
    refine AllReadyIn.cons rfl (fun K hK => ?_) (AllReadyIn.cons rfl (fun K hK => ?_) (AllReadyIn.cons rfl (fun K hK => ?_) AllReadyIn.nil))
    · go_simp
      refine hK _ _ ?_; clear hK K
      refine wpAnyIn_take (i := 5) (v := ?_) rfl rfl (by kernel_rfl) (by kernel_rfl) (by kernel_rfl) (fun _ _ _ h => h) ⟨Or.inl ⟨by rfl, by intro w; go_simp; try with_reducible rfl⟩, fun _ => rfl⟩ ?_
      refine wpAnyIn_take (i := 6) (v := ?_) rfl rfl (by kernel_rfl) (by kernel_rfl) (by kernel_rfl) (fun _ _ _ h => h) ⟨Or.inl ⟨by rfl, by intro w; go_simp; try with_reducible rfl⟩, fun _ => rfl⟩ ?_
      refine wpAnyIn_ready (rs := [1, 2]) (by kernel_rfl) (by simp) ?_
      refine AllReadyIn.cons rfl (fun K hK => ?_) (AllReadyIn.cons rfl (fun K hK => ?_) AllReadyIn.nil)
      · go_simp
        refine hK _ _ ?_; clear hK K
        refine wpAnyIn_ready (rs := [2]) (by kernel_rfl) (by simp) ?_
        refine AllReadyIn.cons rfl (fun K hK => ?_) AllReadyIn.nil
        go_simp
        refine hK _ _ ?_; clear hK K
        refine wpAnyIn_ready (rs := [4]) (by kernel_rfl) (by simp) ?_
        refine AllReadyIn.cons rfl (fun K hK => ?_) AllReadyIn.nil
        go_simp
        gi_wp2_with (refine ⟨trivial, ?_⟩; gi_at_call 153; refine (callsIn_wide.2 HCF.out).mono ?_; rintro e w' ⟨rfl, rfl⟩)
        refine wpAnyIn_take (i := 7) (v := ?_) rfl rfl (by kernel_rfl) (by kernel_rfl) (by kernel_rfl) (fun _ _ _ h => h) ⟨Or.inl ⟨by rfl, by intro w; go_simp; try with_reducible rfl⟩, fun _ => rfl⟩ ?_
        refine wpAnyIn_ready (rs := [8]) (by kernel_rfl) (by simp) ?_
        refine AllReadyIn.cons rfl (fun K hK => ?_) AllReadyIn.nil
        go_simp
        refine hK _ _ ?_; clear hK K
        refine wpAnyIn_done (by kernel_rfl) ?_ _
        exact ⟨((KeepsOthers.drew W).trans (KeepsOthers.setCell _ _ _)).from _, trivial, ((HI.out.step (drew_step W)).mark x.val hx (anyIn l x.val)).alike (fun y _ => seenBy_snoc (anyIn l) pre x y)⟩
      · go_simp
        refine hK _ _ ?_; clear hK K
        refine wpAnyIn_ready (rs := [1, 4]) (by kernel_rfl) (by simp) ?_
        refine AllReadyIn.cons rfl (fun K hK => ?_) (AllReadyIn.cons rfl (fun K hK => ?_) AllReadyIn.nil)
        · go_simp
          refine hK _ _ ?_; clear hK K
          refine wpAnyIn_ready (rs := [4]) (by kernel_rfl) (by simp) ?_
          refine AllReadyIn.cons rfl (fun K hK => ?_) AllReadyIn.nil
          go_simp
          gi_wp2_with (refine ⟨trivial, ?_⟩; gi_at_call 153; refine (callsIn_wide.2 HCF.out).mono ?_; rintro e w' ⟨rfl, rfl⟩)
          refine wpAnyIn_take (i := 7) (v := ?_) rfl rfl (by kernel_rfl) (by kernel_rfl) (by kernel_rfl) (fun _ _ _ h => h) ⟨Or.inl ⟨by rfl, by intro w; go_simp; try with_reducible rfl⟩, fun _ => rfl⟩ ?_
          refine wpAnyIn_ready (rs := [8]) (by kernel_rfl) (by simp) ?_
          refine AllReadyIn.cons rfl (fun K hK => ?_) AllReadyIn.nil
          go_simp
          refine hK _ _ ?_; clear hK K
          refine wpAnyIn_done (by kernel_rfl) ?_ _
          exact ⟨((KeepsOthers.drew W).trans (KeepsOthers.setCell _ _ _)).from _, trivial, ((HI.out.step (drew_step W)).mark x.val hx (anyIn l x.val)).alike (fun y _ => seenBy_snoc (anyIn l) pre x y)⟩
        · go_simp
          gi_wp2_with (refine ⟨trivial, ?_⟩; gi_at_call 153; refine (callsIn_wide.2 HCF.out).mono ?_; rintro e w' ⟨rfl, rfl⟩)
          refine wpAnyIn_ready (rs := [1]) (by kernel_rfl) (by simp) ?_
          refine AllReadyIn.cons rfl (fun K hK => ?_) AllReadyIn.nil
          go_simp
          refine hK _ _ ?_; clear hK K
          refine wpAnyIn_take (i := 7) (v := ?_) rfl rfl (by kernel_rfl) (by kernel_rfl) (by kernel_rfl) (fun _ _ _ h => h) ⟨Or.inl ⟨by rfl, by intro w; go_simp; try with_reducible rfl⟩, fun _ => rfl⟩ ?_
          refine wpAnyIn_ready (rs := [8]) (by kernel_rfl) (by simp) ?_
          refine AllReadyIn.cons rfl (fun K hK => ?_) AllReadyIn.nil
          go_simp
          refine hK _ _ ?_; clear hK K
          refine wpAnyIn_done (by kernel_rfl) ?_ _
          exact ⟨((KeepsOthers.drew W).trans (KeepsOthers.setCell _ _ _)).from _, trivial, ((HI.out.step (drew_step W)).mark x.val hx (anyIn l x.val)).alike (fun y _ => seenBy_snoc (anyIn l) pre x y)⟩
    · go_simp
      refine hK _ _ ?_; clear hK K
      refine wpAnyIn_ready (rs := [0, 2]) (by kernel_rfl) (by simp) ?_
      refine AllReadyIn.cons rfl (fun K hK => ?_) (AllReadyIn.cons rfl (fun K hK => ?_) AllReadyIn.nil)
      · go_simp
        refine hK _ _ ?_; clear hK K
        refine wpAnyIn_take (i := 5) (v := ?_) rfl rfl (by kernel_rfl) (by kernel_rfl) (by kernel_rfl) (fun _ _ _ h => h) ⟨Or.inl ⟨by rfl, by intro w; go_simp; try with_reducible rfl⟩, fun _ => rfl⟩ ?_
        refine wpAnyIn_take (i := 6) (v := ?_) rfl rfl (by kernel_rfl) (by kernel_rfl) (by kernel_rfl) (fun _ _ _ h => h) ⟨Or.inl ⟨by rfl, by intro w; go_simp; try with_reducible rfl⟩, fun _ => rfl⟩ ?_
        refine wpAnyIn_ready (rs := [2]) (by kernel_rfl) (by simp) ?_
        refine AllReadyIn.cons rfl (fun K hK => ?_) AllReadyIn.nil
        go_simp
        refine hK _ _ ?_; clear hK K
        refine wpAnyIn_ready (rs := [4]) (by kernel_rfl) (by simp) ?_
        refine AllReadyIn.cons rfl (fun K hK => ?_) AllReadyIn.nil
        go_simp
        gi_wp2_with (refine ⟨trivial, ?_⟩; gi_at_call 153; refine (callsIn_wide.2 HCF.out).mono ?_; rintro e w' ⟨rfl, rfl⟩)
        refine wpAnyIn_take (i := 7) (v := ?_) rfl rfl (by kernel_rfl) (by kernel_rfl) (by kernel_rfl) (fun _ _ _ h => h) ⟨Or.inl ⟨by rfl, by intro w; go_simp; try with_reducible rfl⟩, fun _ => rfl⟩ ?_
        refine wpAnyIn_ready (rs := [8]) (by kernel_rfl) (by simp) ?_
        refine AllReadyIn.cons rfl (fun K hK => ?_) AllReadyIn.nil
        go_simp
        refine hK _ _ ?_; clear hK K
        refine wpAnyIn_done (by kernel_rfl) ?_ _
        exact ⟨((KeepsOthers.drew W).trans (KeepsOthers.setCell _ _ _)).from _, trivial, ((HI.out.step (drew_step W)).mark x.val hx (anyIn l x.val)).alike (fun y _ => seenBy_snoc (anyIn l) pre x y)⟩
      · go_simp
        refine hK _ _ ?_; clear hK K
        refine wpAnyIn_ready (rs := [0, 4]) (by kernel_rfl) (by simp) ?_
        refine AllReadyIn.cons rfl (fun K hK => ?_) (AllReadyIn.cons rfl (fun K hK => ?_) AllReadyIn.nil)
        · go_simp
          refine hK _ _ ?_; clear hK K
          refine wpAnyIn_take (i := 5) (v := ?_) rfl rfl (by kernel_rfl) (by kernel_rfl) (by kernel_rfl) (fun _ _ _ h => h) ⟨Or.inl ⟨by rfl, by intro w; go_simp; try with_reducible rfl⟩, fun _ => rfl⟩ ?_
          refine wpAnyIn_take (i := 6) (v := ?_) rfl rfl (by kernel_rfl) (by kernel_rfl) (by kernel_rfl) (fun _ _ _ h => h) ⟨Or.inl ⟨by rfl, by intro w; go_simp; try with_reducible rfl⟩, fun _ => rfl⟩ ?_
          refine wpAnyIn_ready (rs := [4]) (by kernel_rfl) (by simp) ?_
          refine AllReadyIn.cons rfl (fun K hK => ?_) AllReadyIn.nil
          go_simp
          gi_wp2_with (refine ⟨trivial, ?_⟩; gi_at_call 153; refine (callsIn_wide.2 HCF.out).mono ?_; rintro e w' ⟨rfl, rfl⟩)
          refine wpAnyIn_take (i := 7) (v := ?_) rfl rfl (by kernel_rfl) (by kernel_rfl) (by kernel_rfl) (fun _ _ _ h => h) ⟨Or.inl ⟨by rfl, by intro w; go_simp; try with_reducible rfl⟩, fun _ => rfl⟩ ?_
          refine wpAnyIn_ready (rs := [8]) (by kernel_rfl) (by simp) ?_
          refine AllReadyIn.cons rfl (fun K hK => ?_) AllReadyIn.nil
          go_simp
          refine hK _ _ ?_; clear hK K
          refine wpAnyIn_done (by kernel_rfl) ?_ _
          exact ⟨((KeepsOthers.drew W).trans (KeepsOthers.setCell _ _ _)).from _, trivial, ((HI.out.step (drew_step W)).mark x.val hx (anyIn l x.val)).alike (fun y _ => seenBy_snoc (anyIn l) pre x y)⟩
        · go_simp
          gi_wp2_with (refine ⟨trivial, ?_⟩; gi_at_call 153; refine (callsIn_wide.2 HCF.out).mono ?_; rintro e w' ⟨rfl, rfl⟩)
          refine wpAnyIn_ready (rs := [0]) (by kernel_rfl) (by simp) ?_
          refine AllReadyIn.cons rfl (fun K hK => ?_) AllReadyIn.nil
          go_simp
          refine hK _ _ ?_; clear hK K
          refine wpAnyIn_take (i := 5) (v := ?_) rfl rfl (by kernel_rfl) (by kernel_rfl) (by kernel_rfl) (fun _ _ _ h => h) ⟨Or.inl ⟨by rfl, by intro w; go_simp; try with_reducible rfl⟩, fun _ => rfl⟩ ?_
          refine wpAnyIn_take (i := 6) (v := ?_) rfl rfl (by kernel_rfl) (by kernel_rfl) (by kernel_rfl) (fun _ _ _ h => h) ⟨Or.inl ⟨by rfl, by intro w; go_simp; try with_reducible rfl⟩, fun _ => rfl⟩ ?_
          refine wpAnyIn_take (i := 7) (v := ?_) rfl rfl (by kernel_rfl) (by kernel_rfl) (by kernel_rfl) (fun _ _ _ h => h) ⟨Or.inl ⟨by rfl, by intro w; go_simp; try with_reducible rfl⟩, fun _ => rfl⟩ ?_
          refine wpAnyIn_ready (rs := [8]) (by kernel_rfl) (by simp) ?_
          refine AllReadyIn.cons rfl (fun K hK => ?_) AllReadyIn.nil
          go_simp
          refine hK _ _ ?_; clear hK K
          refine wpAnyIn_done (by kernel_rfl) ?_ _
          exact ⟨((KeepsOthers.drew W).trans (KeepsOthers.setCell _ _ _)).from _, trivial, ((HI.out.step (drew_step W)).mark x.val hx (anyIn l x.val)).alike (fun y _ => seenBy_snoc (anyIn l) pre x y)⟩
    · go_simp
      refine hK _ _ ?_; clear hK K
      refine wpAnyIn_ready (rs := [0, 1, 4]) (by kernel_rfl) (by simp) ?_
      refine AllReadyIn.cons rfl (fun K hK => ?_) (AllReadyIn.cons rfl (fun K hK => ?_) (AllReadyIn.cons rfl (fun K hK => ?_) AllReadyIn.nil))
      · go_simp
        refine hK _ _ ?_; clear hK K
        refine wpAnyIn_take (i := 5) (v := ?_) rfl rfl (by kernel_rfl) (by kernel_rfl) (by kernel_rfl) (fun _ _ _ h => h) ⟨Or.inl ⟨by rfl, by intro w; go_simp; try with_reducible rfl⟩, fun _ => rfl⟩ ?_
        refine wpAnyIn_take (i := 6) (v := ?_) rfl rfl (by kernel_rfl) (by kernel_rfl) (by kernel_rfl) (fun _ _ _ h => h) ⟨Or.inl ⟨by rfl, by intro w; go_simp; try with_reducible rfl⟩, fun _ => rfl⟩ ?_
        refine wpAnyIn_ready (rs := [1, 4]) (by kernel_rfl) (by simp) ?_
        refine AllReadyIn.cons rfl (fun K hK => ?_) (AllReadyIn.cons rfl (fun K hK => ?_) AllReadyIn.nil)
        · go_simp
          refine hK _ _ ?_; clear hK K
          refine wpAnyIn_ready (rs := [4]) (by kernel_rfl) (by simp) ?_
          refine AllReadyIn.cons rfl (fun K hK => ?_) AllReadyIn.nil
          go_simp
          gi_wp2_with (refine ⟨trivial, ?_⟩; gi_at_call 153; refine (callsIn_wide.2 HCF.out).mono ?_; rintro e w' ⟨rfl, rfl⟩)
          refine wpAnyIn_take (i := 7) (v := ?_) rfl rfl (by kernel_rfl) (by kernel_rfl) (by kernel_rfl) (fun _ _ _ h => h) ⟨Or.inl ⟨by rfl, by intro w; go_simp; try with_reducible rfl⟩, fun _ => rfl⟩ ?_
          refine wpAnyIn_ready (rs := [8]) (by kernel_rfl) (by simp) ?_
          refine AllReadyIn.cons rfl (fun K hK => ?_) AllReadyIn.nil
          go_simp
          refine hK _ _ ?_; clear hK K
          refine wpAnyIn_done (by kernel_rfl) ?_ _
          exact ⟨((KeepsOthers.drew W).trans (KeepsOthers.setCell _ _ _)).from _, trivial, ((HI.out.step (drew_step W)).mark x.val hx (anyIn l x.val)).alike (fun y _ => seenBy_snoc (anyIn l) pre x y)⟩
        · go_simp
          gi_wp2_with (refine ⟨trivial, ?_⟩; gi_at_call 153; refine (callsIn_wide.2 HCF.out).mono ?_; rintro e w' ⟨rfl, rfl⟩)
          refine wpAnyIn_ready (rs := [1]) (by kernel_rfl) (by simp) ?_
          refine AllReadyIn.cons rfl (fun K hK => ?_) AllReadyIn.nil
          go_simp
          refine hK _ _ ?_; clear hK K
          refine wpAnyIn_take (i := 7) (v := ?_) rfl rfl (by kernel_rfl) (by kernel_rfl) (by kernel_rfl) (fun _ _ _ h => h) ⟨Or.inl ⟨by rfl, by intro w; go_simp; try with_reducible rfl⟩, fun _ => rfl⟩ ?_
          refine wpAnyIn_ready (rs := [8]) (by kernel_rfl) (by simp) ?_
          refine AllReadyIn.cons rfl (fun K hK => ?_) AllReadyIn.nil
          go_simp
          refine hK _ _ ?_; clear hK K
          refine wpAnyIn_done (by kernel_rfl) ?_ _
          exact ⟨((KeepsOthers.drew W).trans (KeepsOthers.setCell _ _ _)).from _, trivial, ((HI.out.step (drew_step W)).mark x.val hx (anyIn l x.val)).alike (fun y _ => seenBy_snoc (anyIn l) pre x y)⟩
      · go_simp
        refine hK _ _ ?_; clear hK K
        refine wpAnyIn_ready (rs := [0, 4]) (by kernel_rfl) (by simp) ?_
        refine AllReadyIn.cons rfl (fun K hK => ?_) (AllReadyIn.cons rfl (fun K hK => ?_) AllReadyIn.nil)
        · go_simp
          refine hK _ _ ?_; clear hK K
          refine wpAnyIn_take (i := 5) (v := ?_) rfl rfl (by kernel_rfl) (by kernel_rfl) (by kernel_rfl) (fun _ _ _ h => h) ⟨Or.inl ⟨by rfl, by intro w; go_simp; try with_reducible rfl⟩, fun _ => rfl⟩ ?_
          refine wpAnyIn_take (i := 6) (v := ?_) rfl rfl (by kernel_rfl) (by kernel_rfl) (by kernel_rfl) (fun _ _ _ h => h) ⟨Or.inl ⟨by rfl, by intro w; go_simp; try with_reducible rfl⟩, fun _ => rfl⟩ ?_
          refine wpAnyIn_ready (rs := [4]) (by kernel_rfl) (by simp) ?_
          refine AllReadyIn.cons rfl (fun K hK => ?_) AllReadyIn.nil
          go_simp
          gi_wp2_with (refine ⟨trivial, ?_⟩; gi_at_call 153; refine (callsIn_wide.2 HCF.out).mono ?_; rintro e w' ⟨rfl, rfl⟩)
          refine wpAnyIn_take (i := 7) (v := ?_) rfl rfl (by kernel_rfl) (by kernel_rfl) (by kernel_rfl) (fun _ _ _ h => h) ⟨Or.inl ⟨by rfl, by intro w; go_simp; try with_reducible rfl⟩, fun _ => rfl⟩ ?_
          refine wpAnyIn_ready (rs := [8]) (by kernel_rfl) (by simp) ?_
          refine AllReadyIn.cons rfl (fun K hK => ?_) AllReadyIn.nil
          go_simp
          refine hK _ _ ?_; clear hK K
          refine wpAnyIn_done (by kernel_rfl) ?_ _
          exact ⟨((KeepsOthers.drew W).trans (KeepsOthers.setCell _ _ _)).from _, trivial, ((HI.out.step (drew_step W)).mark x.val hx (anyIn l x.val)).alike (fun y _ => seenBy_snoc (anyIn l) pre x y)⟩
        · go_simp
          gi_wp2_with (refine ⟨trivial, ?_⟩; gi_at_call 153; refine (callsIn_wide.2 HCF.out).mono ?_; rintro e w' ⟨rfl, rfl⟩)
          refine wpAnyIn_ready (rs := [0]) (by kernel_rfl) (by simp) ?_
          refine AllReadyIn.cons rfl (fun K hK => ?_) AllReadyIn.nil
          go_simp
          refine hK _ _ ?_; clear hK K
          refine wpAnyIn_take (i := 5) (v := ?_) rfl rfl (by kernel_rfl) (by kernel_rfl) (by kernel_rfl) (fun _ _ _ h => h) ⟨Or.inl ⟨by rfl, by intro w; go_simp; try with_reducible rfl⟩, fun _ => rfl⟩ ?_
          refine wpAnyIn_take (i := 6) (v := ?_) rfl rfl (by kernel_rfl) (by kernel_rfl) (by kernel_rfl) (fun _ _ _ h => h) ⟨Or.inl ⟨by rfl, by intro w; go_simp; try with_reducible rfl⟩, fun _ => rfl⟩ ?_
          refine wpAnyIn_take (i := 7) (v := ?_) rfl rfl (by kernel_rfl) (by kernel_rfl) (by kernel_rfl) (fun _ _ _ h => h) ⟨Or.inl ⟨by rfl, by intro w; go_simp; try with_reducible rfl⟩, fun _ => rfl⟩ ?_
          refine wpAnyIn_ready (rs := [8]) (by kernel_rfl) (by simp) ?_
          refine AllReadyIn.cons rfl (fun K hK => ?_) AllReadyIn.nil
          go_simp
          refine hK _ _ ?_; clear hK K
          refine wpAnyIn_done (by kernel_rfl) ?_ _
          exact ⟨((KeepsOthers.drew W).trans (KeepsOthers.setCell _ _ _)).from _, trivial, ((HI.out.step (drew_step W)).mark x.val hx (anyIn l x.val)).alike (fun y _ => seenBy_snoc (anyIn l) pre x y)⟩
      · go_simp
        gi_wp2_with (refine ⟨trivial, ?_⟩; gi_at_call 153; refine (callsIn_wide.2 HCF.out).mono ?_; rintro e w' ⟨rfl, rfl⟩)
        refine wpAnyIn_ready (rs := [0, 1]) (by kernel_rfl) (by simp) ?_
        refine AllReadyIn.cons rfl (fun K hK => ?_) (AllReadyIn.cons rfl (fun K hK => ?_) AllReadyIn.nil)
        · go_simp
          refine hK _ _ ?_; clear hK K
          refine wpAnyIn_take (i := 5) (v := ?_) rfl rfl (by kernel_rfl) (by kernel_rfl) (by kernel_rfl) (fun _ _ _ h => h) ⟨Or.inl ⟨by rfl, by intro w; go_simp; try with_reducible rfl⟩, fun _ => rfl⟩ ?_
          refine wpAnyIn_take (i := 6) (v := ?_) rfl rfl (by kernel_rfl) (by kernel_rfl) (by kernel_rfl) (fun _ _ _ h => h) ⟨Or.inl ⟨by rfl, by intro w; go_simp; try with_reducible rfl⟩, fun _ => rfl⟩ ?_
          refine wpAnyIn_ready (rs := [1]) (by kernel_rfl) (by simp) ?_
          refine AllReadyIn.cons rfl (fun K hK => ?_) AllReadyIn.nil
          go_simp
          refine hK _ _ ?_; clear hK K
          refine wpAnyIn_take (i := 7) (v := ?_) rfl rfl (by kernel_rfl) (by kernel_rfl) (by kernel_rfl) (fun _ _ _ h => h) ⟨Or.inl ⟨by rfl, by intro w; go_simp; try with_reducible rfl⟩, fun _ => rfl⟩ ?_
          refine wpAnyIn_ready (rs := [8]) (by kernel_rfl) (by simp) ?_
          refine AllReadyIn.cons rfl (fun K hK => ?_) AllReadyIn.nil
          go_simp
          refine hK _ _ ?_; clear hK K
          refine wpAnyIn_done (by kernel_rfl) ?_ _
          exact ⟨((KeepsOthers.drew W).trans (KeepsOthers.setCell _ _ _)).from _, trivial, ((HI.out.step (drew_step W)).mark x.val hx (anyIn l x.val)).alike (fun y _ => seenBy_snoc (anyIn l) pre x y)⟩
        · go_simp
          refine hK _ _ ?_; clear hK K
          refine wpAnyIn_ready (rs := [0]) (by kernel_rfl) (by simp) ?_
          refine AllReadyIn.cons rfl (fun K hK => ?_) AllReadyIn.nil
          go_simp
          refine hK _ _ ?_; clear hK K
          refine wpAnyIn_take (i := 5) (v := ?_) rfl rfl (by kernel_rfl) (by kernel_rfl) (by kernel_rfl) (fun _ _ _ h => h) ⟨Or.inl ⟨by rfl, by intro w; go_simp; try with_reducible rfl⟩, fun _ => rfl⟩ ?_
          refine wpAnyIn_take (i := 6) (v := ?_) rfl rfl (by kernel_rfl) (by kernel_rfl) (by kernel_rfl) (fun _ _ _ h => h) ⟨Or.inl ⟨by rfl, by intro w; go_simp; try with_reducible rfl⟩, fun _ => rfl⟩ ?_
          refine wpAnyIn_take (i := 7) (v := ?_) rfl rfl (by kernel_rfl) (by kernel_rfl) (by kernel_rfl) (fun _ _ _ h => h) ⟨Or.inl ⟨by rfl, by intro w; go_simp; try with_reducible rfl⟩, fun _ => rfl⟩ ?_
          refine wpAnyIn_ready (rs := [8]) (by kernel_rfl) (by simp) ?_
          refine AllReadyIn.cons rfl (fun K hK => ?_) AllReadyIn.nil
          go_simp
          refine hK _ _ ?_; clear hK K
          refine wpAnyIn_done (by kernel_rfl) ?_ _
          exact ⟨((KeepsOthers.drew W).trans (KeepsOthers.setCell _ _ _)).from _, trivial, ((HI.out.step (drew_step W)).mark x.val hx (anyIn l x.val)).alike (fun y _ => seenBy_snoc (anyIn l) pre x y)⟩
  case done =>
    rintro D ys W hD rfl hI hK
    have p1 := hI.tp
    have hDw : w.heap.size ≤ D := by omega
    have HI := Lib.hid hI
    clear hI hinv0 hbox hsz
    generalize (Value.agg (#[.int .i64 (h : Nat)] ++ Array.replicate 128 (.bool false))) = agg
    gi_wp2
    refine ⟨by simp, .inl ⟨_, _, rfl, run_takeDeferred hK, ?_⟩⟩
    refine ⟨_, results_tmp rfl _ _ _, ⟨⟨_, rfl, Nat.le_succ _, HI.out.tab.kept (grownBy_putObj' W D (.deferred none)) (fun r e => by cases e; exact ⟨_, hK, rfl⟩)⟩, ?_⟩⟩
    exact HI.out.bel.grown (grownBy_putObj' _ D _) HI.out.bel.size (fun k e => by cases e; omega)
  case stop =>
    intro D c pre W _ _ hh _
    exact hh.elim
end Go.Proofs.YtnebkhelobpkpaaDoor
