/- The family of a rule: familyWhere. -/
import Derived.Test.YteifllengcacbaaDoorGr
namespace Go.Proofs.YteifllengcacbaaDoor
open Go.RowKit Go.Deep Go.Shelf
set_option linter.unusedVariables false
attribute [local go_sem] Oper.semAt_some

set_option maxRecDepth 100000 in
set_option maxHeartbeats 2000000 in
theorem familyWhere_any (h : Nat) (fid : FuncId) (cl cr : Array Value) (p : Nat → Bool) (w : World) (h1 : 1 ≤ h) (h7 : h ≤ 7)
    (hC : Chooses w fid cl cr p) :
    Calls Tryd.prog 51 #[.int .i64 (h : Nat), .func (.func fid) cl cr] w (GivesFam w h (pickOf (leastB h (seenBy p (lexAll h))) (lexAll h))) := by
  have hE := hC.enters
  have HC := Lib.hid hC.calls
  clear hC
  refine (callsIn_wide (n := 9)).1 ?_
  have hdd : ∀ k : Nat, (Fence.wide.depth.isSome = true → 1 ≤ k) := fun k h => by cases h
  refine callsIn_of_wp_marks Tryd.func51 rfl trivial ?_ rfl
  simp only [Tryd.ntmps51, List.size_toArray, List.length_cons, List.length_nil, Nat.reduceAdd, Nat.reduceSub, Array.replicate_succ, Array.replicate_zero, List.push_toArray, List.append_toArray, List.nil_append, List.cons_append]
  gi_wp2_with (refine ⟨trivial, ?_⟩; gi_at_call 69; refine (callsIn_wide.2 (groupsOf_any _ _)).mono ?_; rintro e w' ⟨rfl, rfl⟩)
  have hz : Tryd.zeroCells90.setIfInBounds 0 (Value.int .i64 (h : Nat)) = #[.int .i64 (h : Nat)] ++ Array.replicate 128 (.bool false) := tableInit h
  rw [hz]
  have hinv0 : Inv w h (.func (.func fid) cl cr) (seenBy p []) (((((w.alloc (Obj.cells #[.func (.func fid) cl cr] 63)).alloc (Obj.cells #[Value.int .i64 0, Value.slice none 0 0] 26)).alloc (Obj.cells (#[.int .i64 (h : Nat)] ++ Array.replicate 128 (.bool false)) 90)).alloc (Obj.cells #[Value.pointer (some { block := w.heap.size + 1 + 1, off := 0 })] 57)).alloc (Obj.cells #[Value.int .i64 (h : Nat)] 2)) := Inv.init w h _ p _ _ _ _ _
  have hbox : (((((w.alloc (Obj.cells #[.func (.func fid) cl cr] 63)).alloc (Obj.cells #[Value.int .i64 0, Value.slice none 0 0] 26)).alloc (Obj.cells (#[.int .i64 (h : Nat)] ++ Array.replicate 128 (.bool false)) 90)).alloc (Obj.cells #[Value.pointer (some { block := w.heap.size + 1 + 1, off := 0 })] 57)).alloc (Obj.cells #[Value.int .i64 (h : Nat)] 2)).cell? ⟨w.heap.size + 1 + 1 + 1 + 1, 0, none⟩ = some (.int .i64 (h : Nat)) := by
    simp [go_sem]
  have hsz : (((((w.alloc (Obj.cells #[.func (.func fid) cl cr] 63)).alloc (Obj.cells #[Value.int .i64 0, Value.slice none 0 0] 26)).alloc (Obj.cells (#[.int .i64 (h : Nat)] ++ Array.replicate 128 (.bool false)) 90)).alloc (Obj.cells #[Value.pointer (some { block := w.heap.size + 1 + 1, off := 0 })] 57)).alloc (Obj.cells #[Value.int .i64 (h : Nat)] 2)).heap.size = w.heap.size + 5 := by
    simp
  generalize (((((w.alloc (Obj.cells #[.func (.func fid) cl cr] 63)).alloc (Obj.cells #[Value.int .i64 0, Value.slice none 0 0] 26)).alloc (Obj.cells (#[.int .i64 (h : Nat)] ++ Array.replicate 128 (.bool false)) 90)).alloc (Obj.cells #[Value.pointer (some { block := w.heap.size + 1 + 1, off := 0 })] 57)).alloc (Obj.cells #[Value.int .i64 (h : Nat)] 2)) = w0 at hinv0 hbox hsz ⊢
  refine wpIn_rangeFunc_ownG rfl (by decide) (gf := 87) (lb := #[.pointer (some ⟨w.heap.size + 1 + 1 + 1 + 1, 0, none⟩)]) rfl trivial (enters_of Tryd.func87 (by kernel_rfl) rfl)
    (groups_stops 8 h (w.heap.size + 1 + 1 + 1 + 1) w0 h7 (by omega) hbox) (fun _ _ => trivial) (fun _ _ _ _ _ _ _ _ => trivial) (Below.refl _ _) (fun _ => rfl)
    (fun pre W => Inv w h (.func (.func fid) cl cr) (seenBy p pre) W)
    (fun _ _ _ => False)
    (Inv.own (by omega))
    (fun _ _ _ _ _ hs _ _ => hs)
    hinv0
    (fun x => { tmps := #[.int .i64 (h : Nat), .func (.func fid) cl cr, undef, .pointer (some ⟨w.heap.size, 0, none⟩), .pointer (some ⟨w.heap.size + 1, 0, none⟩), .pointer (some ⟨w.heap.size + 1 + 1 + 1, 0, none⟩), .int .u64 (x.val : Int), .int .i64 (h : Nat), .agg (#[.int .i64 (h : Nat)] ++ Array.replicate 128 (.bool false)), .pointer (some ⟨w.heap.size + 1 + 1, 0, none⟩), .int .i64 (h : Nat), .func (.func 87) #[] #[.pointer (some ⟨w.heap.size + 1 + 1 + 1 + 1, 0, none⟩)], .int .u64 (x.val : Int), undef, undef, undef, undef, undef, undef, undef, undef, undef, undef, undef, undef, undef, undef], defers := [] }) ?assign ?body ?done ?stop
  case assign =>
    intro l x W K hK
    generalize (Value.agg (#[.int .i64 (h : Nat)] ++ Array.replicate 128 (.bool false))) = agg at hK ⊢
    dsimp only [encG]
    gi_wp2
    exact hK
  case body =>
    intro l pre x W hI hlt
    have hx := x.isLt
    have hxi : ((x.val : Nat) : Int) < 128 := by omega
    generalize (Value.agg (#[.int .i64 (h : Nat)] ++ Array.replicate 128 (.bool false))) = agg
    have hmx : Tryd.prog.follows .mixedOrders = true := by kernel_rfl
    have p0 := hI.op
    have p1 := hI.tp
    have pf := hI.tab.free (1 + x.val)
    have pc := hI.tab.cell x.val hx
    have HI := Lib.hid hI
    have HC1 := Lib.hid (HC.out x)
    clear hI hinv0 hbox hsz HC
    gi_wp2
    refine wpIn_region_round l rfl (by kernel_rfl) hmx ?_
    refine wpAnyIn_take (i := 1) (v := .int .u64 (x.val : Int)) rfl rfl (by kernel_rfl) (by kernel_rfl) (by kernel_rfl) (fun _ _ _ h => h) ⟨Or.inl ⟨by rfl, by intro w; rfl⟩, fun _ => rfl⟩ ?_
    refine wpAnyIn_take (i := 3) (v := .int .u64 (x.val : Int)) rfl rfl (by kernel_rfl) (by kernel_rfl) (by kernel_rfl) (fun _ _ _ h => h) ⟨Or.inl ⟨by rfl, by intro w; rfl⟩, fun _ => rfl⟩ ?_
    refine wpAnyIn_ready (rs := [0, 2]) (by kernel_rfl) (by simp) ?_
    refine AllReadyIn.cons rfl (fun K hK => ?_) (AllReadyIn.cons rfl (fun K hK => ?_) AllReadyIn.nil)
    
    · go_simp
      refine hK _ _ ?_; clear hK K
      refine wpAnyIn_take (i := 5) (v := ?_) rfl rfl (by kernel_rfl) (by kernel_rfl) (by kernel_rfl) (fun _ _ _ h => h) ⟨Or.inl ⟨by rfl, by intro w; go_simp; try with_reducible rfl⟩, fun _ => rfl⟩ ?_
      refine wpAnyIn_take (i := 6) (v := ?_) rfl rfl (by kernel_rfl) (by kernel_rfl) (by kernel_rfl) (fun _ _ _ h => h) ⟨Or.inl ⟨by rfl, by intro w; go_simp; try with_reducible rfl⟩, fun _ => rfl⟩ ?_
      refine wpAnyIn_ready (rs := [2]) (by kernel_rfl) (by simp) ?_
      refine AllReadyIn.cons rfl (fun K hK => ?_) AllReadyIn.nil
      go_simp
      refine hK _ _ ?_; clear hK K
      refine wpAnyIn_ready (rs := [4]) (by kernel_rfl) (by simp) ?_
      refine AllReadyIn.cons rfl (fun K hK => ?_) AllReadyIn.nil
      go_simp
      gi_wp2_with (refine ⟨trivial, ?_⟩; refine (callsIn_wide.2 (HC1.out _ ?_)).mono ?_; (exact chain2 HI.out.bel (drew_step _) HI.out.bel.size); rintro e w' ⟨rfl, hb⟩; have t0 := cell_step hb (cell_step (drew_step _) p0); have t1 := cell_step hb (cell_step (drew_step _) p1); have t2 := cell_step hb (cell_step (drew_step _) pc); have t3 := (hb.frozen (p := ⟨w.heap.size + 1 + 1, 1 + x.val, none⟩) (World.block_lt_of_cell? _ _ (cell_step (drew_step _) pc))).trans pf)
      refine wpAnyIn_take (i := 7) (v := ?_) rfl rfl (by kernel_rfl) (by kernel_rfl) (by kernel_rfl) (fun _ _ _ h => h) ⟨Or.inl ⟨by rfl, by intro w; go_simp; try with_reducible rfl⟩, fun _ => rfl⟩ ?_
      refine wpAnyIn_ready (rs := [8]) (by kernel_rfl) (by simp) ?_
      refine AllReadyIn.cons rfl (fun K hK => ?_) AllReadyIn.nil
      go_simp
      refine hK _ _ ?_; clear hK K
      refine wpAnyIn_done (by kernel_rfl) ?_ _
      exact ⟨(((KeepsOthers.drew W).trans (keepsBelow hb)).trans (KeepsOthers.setCell _ _ _)).from _, trivial, (((HI.out.step (drew_step W)).step hb).mark x.val hx (p x.val)).alike (fun y _ => seenBy_snoc p pre x y)⟩
    · go_simp
      refine hK _ _ ?_; clear hK K
      refine wpAnyIn_ready (rs := [0, 4]) (by kernel_rfl) (by simp) ?_
      refine AllReadyIn.cons rfl (fun K hK => ?_) (AllReadyIn.cons rfl (fun K hK => ?_) AllReadyIn.nil)
      · go_simp
        refine hK _ _ ?_; clear hK K
        refine wpAnyIn_take (i := 5) (v := ?_) rfl rfl (by kernel_rfl) (by kernel_rfl) (by kernel_rfl) (fun _ _ _ h => h) ⟨Or.inl ⟨by rfl, by intro w; go_simp; try with_reducible rfl⟩, fun _ => rfl⟩ ?_
        refine wpAnyIn_take (i := 6) (v := ?_) rfl rfl (by kernel_rfl) (by kernel_rfl) (by kernel_rfl) (fun _ _ _ h => h) ⟨Or.inl ⟨by rfl, by intro w; go_simp; try with_reducible rfl⟩, fun _ => rfl⟩ ?_
        refine wpAnyIn_ready (rs := [4]) (by kernel_rfl) (by simp) ?_
        refine AllReadyIn.cons rfl (fun K hK => ?_) AllReadyIn.nil
        go_simp
        gi_wp2_with (refine ⟨trivial, ?_⟩; refine (callsIn_wide.2 (HC1.out _ ?_)).mono ?_; (exact chain2 HI.out.bel (drew_step _) HI.out.bel.size); rintro e w' ⟨rfl, hb⟩; have t0 := cell_step hb (cell_step (drew_step _) p0); have t1 := cell_step hb (cell_step (drew_step _) p1); have t2 := cell_step hb (cell_step (drew_step _) pc); have t3 := (hb.frozen (p := ⟨w.heap.size + 1 + 1, 1 + x.val, none⟩) (World.block_lt_of_cell? _ _ (cell_step (drew_step _) pc))).trans pf)
        refine wpAnyIn_take (i := 7) (v := ?_) rfl rfl (by kernel_rfl) (by kernel_rfl) (by kernel_rfl) (fun _ _ _ h => h) ⟨Or.inl ⟨by rfl, by intro w; go_simp; try with_reducible rfl⟩, fun _ => rfl⟩ ?_
        refine wpAnyIn_ready (rs := [8]) (by kernel_rfl) (by simp) ?_
        refine AllReadyIn.cons rfl (fun K hK => ?_) AllReadyIn.nil
        go_simp
        refine hK _ _ ?_; clear hK K
        refine wpAnyIn_done (by kernel_rfl) ?_ _
        exact ⟨(((KeepsOthers.drew W).trans (keepsBelow hb)).trans (KeepsOthers.setCell _ _ _)).from _, trivial, (((HI.out.step (drew_step W)).step hb).mark x.val hx (p x.val)).alike (fun y _ => seenBy_snoc p pre x y)⟩
      · go_simp
        gi_wp2_with (refine ⟨trivial, ?_⟩; refine (callsIn_wide.2 (HC1.out _ ?_)).mono ?_; (exact chain2 HI.out.bel (drew_step _) HI.out.bel.size); rintro e w' ⟨rfl, hb⟩; have t0 := cell_step hb (cell_step (drew_step _) p0); have t1 := cell_step hb (cell_step (drew_step _) p1); have t2 := cell_step hb (cell_step (drew_step _) pc); have t3 := (hb.frozen (p := ⟨w.heap.size + 1 + 1, 1 + x.val, none⟩) (World.block_lt_of_cell? _ _ (cell_step (drew_step _) pc))).trans pf)
        refine wpAnyIn_ready (rs := [0]) (by kernel_rfl) (by simp) ?_
        refine AllReadyIn.cons rfl (fun K hK => ?_) AllReadyIn.nil
        go_simp
        refine hK _ _ ?_; clear hK K
        refine wpAnyIn_take (i := 5) (v := ?_) rfl rfl (by kernel_rfl) (by kernel_rfl) (by kernel_rfl) (fun _ _ _ h => h) ⟨Or.inl ⟨by rfl, by intro w; go_simp; try with_reducible rfl⟩, fun _ => rfl⟩ ?_
        refine wpAnyIn_take (i := 6) (v := ?_) rfl rfl (by kernel_rfl) (by kernel_rfl) (by kernel_rfl) (fun _ _ _ h => h) ⟨Or.inl ⟨by rfl, by intro w; go_simp; try with_reducible rfl⟩, fun _ => rfl⟩ ?_
        refine wpAnyIn_take (i := 7) (v := ?_) rfl rfl (by kernel_rfl) (by kernel_rfl) (by kernel_rfl) (fun _ _ _ h => h) ⟨Or.inl ⟨by rfl, by intro w; go_simp; try with_reducible rfl⟩, fun _ => rfl⟩ ?_
        refine wpAnyIn_ready (rs := [8]) (by kernel_rfl) (by simp) ?_
        refine AllReadyIn.cons rfl (fun K hK => ?_) AllReadyIn.nil
        go_simp
        refine hK _ _ ?_; clear hK K
        refine wpAnyIn_done (by kernel_rfl) ?_ _
        exact ⟨(((KeepsOthers.drew W).trans (keepsBelow hb)).trans (KeepsOthers.setCell _ _ _)).from _, trivial, (((HI.out.step (drew_step W)).step hb).mark x.val hx (p x.val)).alike (fun y _ => seenBy_snoc p pre x y)⟩
      
  case done =>
    rintro D ys W hD rfl hI hK
    have p1 := hI.tp
    have r0 := hI.r0
    have r1 := hI.r1
    have f0 := hI.rf0
    have f1 := hI.rf1
    have HI := Lib.hid hI
    have HT := Lib.hid hI.tab
    have hTW := World.block_lt_of_cell? _ _ hI.tab.h0
    have HK := Lib.hid hK
    have hDw : w.heap.size + 5 ≤ D := by omega
    clear hI hK hinv0 hbox hsz HC
    generalize (Value.agg (#[.int .i64 (h : Nat)] ++ Array.replicate 128 (.bool false))) = agg
    gi_wp2_with (refine ⟨trivial, ?_⟩; gi_at_call 48; refine (callsIn_wide.2 (groupsLeast_any (w.heap.size + 1 + 1) h (seenBy p (lexAll h)) W h1 h7 HT.out hTW)).mono ?_; rintro e w' ⟨⟨v, us, rfl, hrow, hrows⟩, hb⟩; obtain ⟨va, vc, rfl⟩ := rowForm hrow; have q0 := cell_step hb r0; have q1 := cell_step hb r1; have g0 := (hb.frozen (World.block_lt_of_cell? _ _ r0)).trans f0; have g1 := (hb.frozen (World.block_lt_of_cell? _ _ r1)).trans f1)
    have hDW := (Array.getElem?_eq_some_iff.1 HK.out).1
    have k1 := (hb.block D hDW).trans HK.out
    generalize hw3 : ((w'.setCell ⟨w.heap.size + 1, 0, none⟩ (.int .i64 (h : Nat))).setCell ⟨w.heap.size + 1, 1, none⟩ (.slice va (pickOf (leastB h (seenBy p (lexAll h))) (lexAll h)).length vc)) = w3
    have k3 : w3.heap[D]? = some (.deferred (some [])) := by
      rw [← hw3]
      exact (Below.heap_setCell _ _ _ _ (by simp <;> omega)).trans ((Below.heap_setCell _ _ _ _ (by simp <;> omega)).trans k1)
    have c0 : w3.cell? ⟨w.heap.size + 1, 0, none⟩ = some (.int .i64 (h : Nat)) := by
      rw [← hw3, World.cell?_setCell_other _ _ _ _ (by simp)]
      exact World.cell?_setCell_same _ _ _ q0
    have c1 : w3.cell? ⟨w.heap.size + 1, 1, none⟩ = some (.slice va (pickOf (leastB h (seenBy p (lexAll h))) (lexAll h)).length vc) := by
      rw [← hw3]
      exact World.cell?_setCell_same _ _ _ (by rw [World.cell?_setCell_other _ _ _ _ (by simp)]; exact q1)
    have hwb := HI.out.bel.size
    have hwW : w.heap.size + 1 < W.heap.size := World.block_lt_of_cell? _ _ r0
    have hr3 : w3.ownsRow W.heap.size 28 1 (.slice va (pickOf (leastB h (seenBy p (lexAll h))) (lexAll h)).length vc) (pickOf (leastB h (seenBy p (lexAll h))) (lexAll h)).length us := by
      rw [← hw3]; exact row_set (row_set hrow hwW _) hwW _
    have hs3 : RowsOwn w3 W.heap.size us (pickOf (leastB h (seenBy p (lexAll h))) (lexAll h)) := by
      rw [← hw3]; exact hrows.map fun u zs hu => row_set (row_set hu hwW _) hwW _
    have hb3 : Below w.heap.size w w3 := by
      rw [← hw3]; exact ((HI.out.bel.trans (hb.mono hwb)).setCell (by simp) _).setCell (by simp) _
    clear hw3
    refine ⟨by simp, .inl ⟨_, _, rfl, run_takeDeferred k3, ?_⟩⟩
    refine ⟨.agg #[.int .i64 (h : Nat), .slice va (pickOf (leastB h (seenBy p (lexAll h))) (lexAll h)).length vc], ?_, ?_⟩
    · have d0 := cell_kept c0 (grownBy_putObj' w3 D (.deferred none)) (fun r e => by cases e; exact ⟨_, k3, rfl⟩)
      have d1 := cell_kept c1 (grownBy_putObj' w3 D (.deferred none)) (fun r e => by cases e; exact ⟨_, k3, rfl⟩)
      simp only [results]
      go_simp
    · exact ⟨⟨_, us, rfl, ownsRow_mono (ownsRow_putObj hr3 _ k3 rfl) hwb, (hs3.map (fun u zs hu => ownsRow_putObj hu _ k3 rfl)).mono hwb⟩, hb3.grown (grownBy_putObj' _ D _) hb3.size (fun k e => by cases e; omega)⟩
  case stop =>
    intro D c pre W _ _ hh _
    exact hh.elim
end Go.Proofs.YteifllengcacbaaDoor
