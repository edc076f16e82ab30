/- withColumn of the program. -/
import Derived.Test.YtnebkhelobpkpaaSo0
import Derived.Deep.AppendLies
import Derived.Deep.RegionLaw
import Derived.Deep.DrawnRows
import Derived.Deep.RegionHeld3
namespace Go.Proofs.Ytnebkhelobpkpaa
open Go.RowKit Go.Deep Go.Joins Go.ChangeShapes Go.WideShapes Go.ChangeAt
set_option linter.unusedVariables false

set_option maxRecDepth 100000 in
set_option maxHeartbeats 8000000 in
theorem withColumn_any (p : Int) (n : Nat) (a : Option Addr) (ca : Nat) (z : List (List Int)) (av : Option Addr) (v : List Int) (cv : Nat) (w : World) (hr : GridR w a p z) (hzm : z.length ≤ 1000) (hn : n ≤ 999) (hrow : ∀ r, r < z.length → (nthL z r).length = n) (hv : Ints w av v) (hl : v.length = z.length) :
    Calls Try.prog 128 #[.agg #[.slice a z.length ca, .int .i64 p, .int .i64 (n : Int)], .slice av v.length cv] w fun e w' => (∃ va vc us, e = .returned (.agg #[.slice va z.length vc, .int .i64 p, .int .i64 ((n : Int) + 1)]) ∧ OwnG w' w.heap.size p (.slice va z.length vc) us (besA z [v] z.length)) ∧ Below w.heap.size w w' := by
  obtain ⟨i0, hi, hz0, hz1, hz2⟩ := info_parts Try.infoNum
  obtain ⟨i1, ji, jz0, jz1, jz2⟩ := info_parts Try.infoNums
  have HR := Lib.hid hr
  have HROW := Lib.hid hrow
  have HV := Lib.hid hv
  have HL := Lib.hid hl
  clear hr hrow hv hl
  go_enter Try.func128, Try.ntmps128
  go_wp2_with fail
  have hb1 := (((Below.refl w.heap.size w).alloc (Nat.le_refl _) (.cells #[.slice a z.length ca, .int .i64 p, .int .i64 (n : Int)] 102)).alloc (by simp) (.cells #[.slice none 0 0, .int .i64 0, .int .i64 0] 102)).alloc (by simp; omega) (.cells #[.slice none 0 0, .int .i64 p, .int .i64 ((n : Int) + 1)] 102)
  have hx0 : Boxes (((w.alloc (.cells #[.slice a z.length ca, .int .i64 p, .int .i64 (n : Int)] 102)).alloc (.cells #[.slice none 0 0, .int .i64 0, .int .i64 0] 102)).alloc (.cells #[.slice none 0 0, .int .i64 p, .int .i64 ((n : Int) + 1)] 102)) w.heap.size 102 #[.slice a z.length ca, .int .i64 p, .int .i64 (n : Int)] := Boxes.step (Boxes.step (World.alloc_heap_new w _) (al_b _ _)) (al_b _ _)
  have hx1 : Boxes (((w.alloc (.cells #[.slice a z.length ca, .int .i64 p, .int .i64 (n : Int)] 102)).alloc (.cells #[.slice none 0 0, .int .i64 0, .int .i64 0] 102)).alloc (.cells #[.slice none 0 0, .int .i64 p, .int .i64 ((n : Int) + 1)] 102)) (w.heap.size + 1) 102 #[.slice none 0 0, .int .i64 0, .int .i64 0] := by
    have := Boxes.step (W := (w.alloc (.cells #[.slice a z.length ca, .int .i64 p, .int .i64 (n : Int)] 102)).alloc (.cells #[.slice none 0 0, .int .i64 0, .int .i64 0] 102)) (World.alloc_heap_new (w.alloc (.cells #[.slice a z.length ca, .int .i64 p, .int .i64 (n : Int)] 102)) (.cells #[.slice none 0 0, .int .i64 0, .int .i64 0] 102)) (al_b _ (.cells #[.slice none 0 0, .int .i64 p, .int .i64 ((n : Int) + 1)] 102))
    simp only [World.size_alloc] at this
    exact this
  have hx2 : Boxes (((w.alloc (.cells #[.slice a z.length ca, .int .i64 p, .int .i64 (n : Int)] 102)).alloc (.cells #[.slice none 0 0, .int .i64 0, .int .i64 0] 102)).alloc (.cells #[.slice none 0 0, .int .i64 p, .int .i64 ((n : Int) + 1)] 102)) (w.heap.size + 2) 102 #[.slice none 0 0, .int .i64 p, .int .i64 ((n : Int) + 1)] := by
    have : Boxes (((w.alloc (.cells #[.slice a z.length ca, .int .i64 p, .int .i64 (n : Int)] 102)).alloc (.cells #[.slice none 0 0, .int .i64 0, .int .i64 0] 102)).alloc (.cells #[.slice none 0 0, .int .i64 p, .int .i64 ((n : Int) + 1)] 102)) ((w.alloc (.cells #[.slice a z.length ca, .int .i64 p, .int .i64 (n : Int)] 102)).alloc (.cells #[.slice none 0 0, .int .i64 0, .int .i64 0] 102)).heap.size 102 #[.slice none 0 0, .int .i64 p, .int .i64 ((n : Int) + 1)] := World.alloc_heap_new _ _
    simp only [World.size_alloc] at this
    exact this
  generalize ((w.alloc (.cells #[.slice a z.length ca, .int .i64 p, .int .i64 (n : Int)] 102)).alloc (.cells #[.slice none 0 0, .int .i64 0, .int .i64 0] 102)).alloc (.cells #[.slice none 0 0, .int .i64 p, .int .i64 ((n : Int) + 1)] 102) = w3 at *
  have HB1 := Lib.hid hb1
  have HX0 := Lib.hid hx0
  have HX1 := Lib.hid hx1
  have HX2 := Lib.hid hx2
  clear hb1 hx0 hx1 hx2
  go_loopw [6, 7, 17] (fun q6 q7 i wr => ∃ (k : Nat) (va : Option Addr) (vc : Nat) (us : List Value), k ≤ z.length ∧ i = .int .i64 k ∧ Boxes wr w.heap.size 102 #[.slice a z.length ca, .int .i64 p, .int .i64 (n : Int)] ∧ Boxes wr (w.heap.size + 1) 102 #[.slice none 0 0, .int .i64 0, .int .i64 0] ∧ Boxes wr (w.heap.size + 2) 102 #[.slice va k vc, .int .i64 p, .int .i64 ((n : Int) + 1)] ∧ OwnG wr (w.heap.size + 3) p (.slice va k vc) us (besA z [v] k) ∧ Below w.heap.size w wr)
    (fun _ _ i _ => z.length - (intOf i).toNat)
  case atStart => exact ⟨0, none, 0, _, Nat.zero_le _, rfl, HX0.out, HX1.out, HX2.out, OwnG.nil _ _ _, HB1.out⟩
  case round =>
    obtain ⟨k, va, vc, us, hk, rfl, hx0, hx1, hx2, hog, hb⟩ := hrel
    have c0 := hx2.m0
    have c1 := hx2.m1
    have c2 := hx2.m2
    have f0 := hx2.frozen 0
    have g1 := hx0.m1
    have hl0 := hx0.lt
    have hl1 := hx1.lt
    have hl2 := hx2.lt
    have e0 := hx1.m0
    have e1 := hx1.m1
    have e2 := hx1.m2
    have s0 := hx1.frozen 0
    have s1 := hx1.frozen 1
    have s2 := hx1.frozen 2
    clear HX0 HX1 HX2 HB1
    have HG := Lib.hid hx0
    have HX1 := Lib.hid hx1
    have HX2 := Lib.hid hx2
    have HRW := Lib.hid hog.rows
    have HOG := Lib.hid (show wr.ownsRow (w.heap.size + 3) 173 1 (.slice va k vc) k us by have := hog.row; rw [besA_len] at this; exact this)
    have HBW := Lib.hid hb
    clear hx0 hx1 hx2 hog hb
    by_cases hlt : k < z.length
    · have hk0 : (k : Int) < (z.length : Int) := by omega
      rcases HR.out.below HBW.out (Nat.le_refl _) with h | ⟨b, rfl, hc⟩
      · rw [h] at hlt; exact absurd hlt (Nat.not_lt_zero _)
      obtain ⟨ai, ci, hcell, hnums⟩ := hc k hlt
      have hlen := HROW.out k hlt
      rw [hlen] at hcell
      have HNU := Lib.hid hnums
      have HLE := Lib.hid hlen
      rcases HV.out with h | ⟨vb, vo, rfl, hvc0⟩
      · have h9 := HL.out; rw [h] at h9; simp at h9; omega
      have hvw0 := hvc0 k (by have := HL.out; omega)
      have hvk := cell_step HBW.out hvw0
      have hvi : (k : Int) < (v.length : Int) := by have := HL.out; omega
      have HSN := Lib.hid (show besA z [v] (k + 1) = besA z [v] k ++ [nthL z k ++ [nth v k]] from by rw [besA_snoc]; show _ ++ [besR z [v] k 1] = _; rw [besR_snoc, besR_zero]; rfl)
      generalize nth v k = x at hvk HSN hvw0
      have HVW := Lib.hid hvw0
      have HVK := Lib.hid hvk
      have hvl : vb < wr.heap.size := World.block_lt_of_cell? _ _ hvk
      have hszr : w.heap.size + 3 ≤ wr.heap.size := hl2
      clear hc hnums hlen hvc0 hvw0
      go_wp2_with fail
      have MKW := Lib.hid (show ∀ w' : World, w'.heap[w.heap.size]? = wr.heap[w.heap.size]? → w'.heap[vb]? = wr.heap[vb]? → w'.cell? ⟨w.heap.size, 1, none⟩ = some (.int .i64 p) ∧ w'.cell? ⟨vb, vo + k, none⟩ = some (.int .i64 x) from fun w' h1 h2 => ⟨by have := HG.out.m1; unfold World.cell? at this ⊢; rw [h1]; exact this, by have := HVK.out; unfold World.cell? at this ⊢; rw [h2]; exact this⟩)
      have MK := Lib.hid (show ∀ w' : World, Below wr.heap.size wr w' → w'.cell? ⟨w.heap.size, 1, none⟩ = some (.int .i64 p) ∧ w'.cell? ⟨vb, vo + k, none⟩ = some (.int .i64 x) from fun w' hw => MKW.out w' (hw.block _ hl0) (hw.block _ hvl))
      have hvw : vb < w.heap.size := by have := World.block_lt_of_cell? _ _ HVW.out; simpa using this
      have MKS := Lib.hid (show ∀ (W : World) {y : Value}, (W.cell? ⟨w.heap.size, 1, none⟩ = some (.int .i64 p) ∧ W.cell? ⟨vb, vo + k, none⟩ = some (.int .i64 x)) → (W.setCell ⟨w.heap.size + 2, 0, none⟩ y).cell? ⟨w.heap.size, 1, none⟩ = some (.int .i64 p) ∧ (W.setCell ⟨w.heap.size + 2, 0, none⟩ y).cell? ⟨vb, vo + k, none⟩ = some (.int .i64 x) from fun W y h => ⟨by have h1 := h.1; unfold World.cell? at h1 ⊢; rw [Below.heap_setCell _ _ _ _ (by simp)]; exact h1, by have h1 := h.2; unfold World.cell? at h1 ⊢; rw [Below.heap_setCell _ _ _ _ (by simp; omega)]; exact h1⟩)
      refine wp_region_noPanic ?_
      refine wp_region_held_drew (S := (fun w' => w'.cell? ⟨w.heap.size, 1, none⟩ = some (.int .i64 p) ∧ w'.cell? ⟨vb, vo + k, none⟩ = some (.int .i64 x))) (by kernel_rfl) ?_ (fun hH => ?_)
      · exact MK.out _ (drew_step _)
      refine wpAnyH_take (i := 0) (oi := ?oi1) (v := ?v1) ?hi1 (by kernel_rfl) (by kernel_rfl) (by kernel_rfl) (fun _ _ _ h => h) (Or.inl ⟨?hw1, ?hy1⟩) hH ?rest1
      case hi1 => (simp only [List.getElem?_toArray, List.getElem?_cons_zero]; rfl)
      case hw1 => rfl
      case hy1 => (intro w hSw; (try dsimp only at hSw); go_simp; try with_reducible rfl)
      (try simp only [Act.put, List.setIfInBounds_toArray, List.set_cons_zero, List.set_cons_succ])
      refine wpAnyH_take (i := 2) (oi := ?oi2) (v := ?v2) ?hi2 (by kernel_rfl) (by kernel_rfl) (by kernel_rfl) (fun _ _ _ h => h) (Or.inl ⟨?hw2, ?hy2⟩) hH ?rest2
      case hi2 => (simp only [List.getElem?_toArray, List.getElem?_cons_succ, List.getElem?_cons_zero]; rfl)
      case hw2 => rfl
      case hy2 => (intro w hSw; (try dsimp only at hSw); go_simp; try with_reducible rfl)
      (try simp only [Act.put, List.setIfInBounds_toArray, List.set_cons_zero, List.set_cons_succ])
      refine wpAnyH_take (i := 4) (oi := ?oi3) (v := ?v3) ?hi3 (by kernel_rfl) (by kernel_rfl) (by kernel_rfl) (fun _ _ _ h => h) (Or.inl ⟨?hw3, ?hy3⟩) hH ?rest3
      case hi3 => (simp only [List.getElem?_toArray, List.getElem?_cons_succ, List.getElem?_cons_zero]; rfl)
      case hw3 => rfl
      case hy3 => (intro w hSw; (try dsimp only at hSw); go_simp; try with_reducible rfl)
      (try simp only [Act.put, List.setIfInBounds_toArray, List.set_cons_zero, List.set_cons_succ])
      refine wpAnyH_take (i := 5) (oi := ?oi4) (v := ?v4) ?hi4 (by kernel_rfl) (by kernel_rfl) (by kernel_rfl) (fun _ _ _ h => h) (Or.inl ⟨?hw4, ?hy4⟩) hH ?rest4
      case hi4 => (simp only [List.getElem?_toArray, List.getElem?_cons_succ, List.getElem?_cons_zero]; rfl)
      case hw4 => rfl
      case hy4 => (intro w hSw; (try dsimp only at hSw); go_simp; try with_reducible rfl)
      (try simp only [Act.put, List.setIfInBounds_toArray, List.set_cons_zero, List.set_cons_succ])
      refine wpAnyH_take (i := 6) (oi := ?oi5) (v := ?v5) ?hi5 (by kernel_rfl) (by kernel_rfl) (by kernel_rfl) (fun _ _ _ h => h) (Or.inl ⟨?hw5, ?hy5⟩) hH ?rest5
      case hi5 => (simp only [List.getElem?_toArray, List.getElem?_cons_succ, List.getElem?_cons_zero]; rfl)
      case hw5 => rfl
      case hy5 => (intro w hSw; (try dsimp only at hSw); go_simp; try with_reducible rfl)
      (try simp only [Act.put, List.setIfInBounds_toArray, List.set_cons_zero, List.set_cons_succ])
      refine wpAnyH_take (i := 7) (oi := ?oi6) (v := ?v6) ?hi6 (by kernel_rfl) (by kernel_rfl) (by kernel_rfl) (fun _ _ _ h => h) (Or.inl ⟨?hw6, ?hy6⟩) hH ?rest6
      case hi6 => (simp only [List.getElem?_toArray, List.getElem?_cons_succ, List.getElem?_cons_zero]; rfl)
      case hw6 => rfl
      case hy6 => (intro w hSw; (try dsimp only at hSw); go_simp; try with_reducible rfl)
      (try simp only [Act.put, List.setIfInBounds_toArray, List.set_cons_zero, List.set_cons_succ])
      refine wpAnyH_take (i := 8) (oi := ?oi7) (v := ?v7) ?hi7 (by kernel_rfl) (by kernel_rfl) (by kernel_rfl) (fun _ _ _ h => h) (Or.inl ⟨?hw7, ?hy7⟩) hH ?rest7
      case hi7 => (simp only [List.getElem?_toArray, List.getElem?_cons_succ, List.getElem?_cons_zero]; rfl)
      case hw7 => rfl
      case hy7 => (intro w hSw; (try dsimp only at hSw); go_simp; try with_reducible rfl)
      (try simp only [Act.put, List.setIfInBounds_toArray, List.set_cons_zero, List.set_cons_succ])
      refine wpAnyH_take (i := 9) (oi := ?oi8) (v := ?v8) ?hi8 (by kernel_rfl) (by kernel_rfl) (by kernel_rfl) (fun _ _ _ h => h) (Or.inl ⟨?hw8, ?hy8⟩) hH ?rest8
      case hi8 => (simp only [List.getElem?_toArray, List.getElem?_cons_succ, List.getElem?_cons_zero]; rfl)
      case hw8 => rfl
      case hy8 => (intro w hSw; (try dsimp only at hSw); go_simp; try with_reducible rfl)
      (try simp only [Act.put, List.setIfInBounds_toArray, List.set_cons_zero, List.set_cons_succ])
      refine wpAnyH_ready (rs := [1, 3]) (by kernel_rfl) (by simp) ?_
      refine AllReadyH.cons (o := ?o9) ?ho9 (fun K hK => ?step9) ?more9
      case ho9 => (simp only [List.getElem?_toArray, List.getElem?_cons_succ, List.getElem?_cons_zero]; rfl)
      case step9 =>
        go_simp
        refine hK.out _ _ ?_ (fun hH0 => ?_)
        · exact hH
        clear hK K hH
        (try simp only [Act.put, List.setIfInBounds_toArray, List.set_cons_zero, List.set_cons_succ])
        refine wpAnyH_ready (rs := [3]) (by kernel_rfl) (by simp) ?_
        refine AllReadyH.cons (o := ?o10) ?ho10 (fun K hK => ?step10) ?more10
        case ho10 => (simp only [List.getElem?_toArray, List.getElem?_cons_succ, List.getElem?_cons_zero]; rfl)
        case step10 =>
          go_simp
          go_at_call 132; refine (cloneE_any p ai (nthL z k) n ci _ (HNU.out.step (drew_step _)) HLE.out (by omega)).mono ?_; rintro e w5 ⟨⟨v5, rfl, hv5⟩, hb5⟩; obtain ⟨v5a, v5c, rfl⟩ := rowForm hv5; have HB5 := Lib.hid (show Below wr.heap.size wr w5 from (drew_step wr).trans hb5); have HV5 := Lib.hid (show OwnN w5 wr.heap.size p (.slice v5a (nthL z k).length v5c) (nthL z k) from hv5); clear hv5 hb5; have z0 := (HX2.out.step HB5.out).m0; have zf := (HX2.out.step HB5.out).frozen 0; have zl : w.heap.size + 2 < w5.heap.size := (HX2.out.step HB5.out).lt
          go_wp2_with fail
          refine hK.out _ _ ?_ (fun hH1 => ?_)
          · exact MK.out _ HB5.out
          clear hK K hH0
          (try simp only [Act.put, List.setIfInBounds_toArray, List.set_cons_zero, List.set_cons_succ])
          refine wpAnyH_ready (rs := [10]) (by kernel_rfl) (by simp) ?_
          refine AllReadyH.cons (o := ?o11) ?ho11 (fun K hK => ?step11) ?more11
          case ho11 => (simp only [List.getElem?_toArray, List.getElem?_cons_succ, List.getElem?_cons_zero]; rfl)
          case step11 =>
            go_simp
            go_at_call 95; refine (number_any p x _).mono ?_; rintro e w6 ⟨rfl, hb6⟩; have HB6 := Lib.hid (HB5.out.trans (hb6.mono HB5.out.size)); have HV6 := Lib.hid (HV5.out.step hb6); clear hb6; have y0 := (HX2.out.step HB6.out).m0; have yf := (HX2.out.step HB6.out).frozen 0; have yl : w.heap.size + 2 < w6.heap.size := (HX2.out.step HB6.out).lt
            go_wp2_with fail
            refine hK.out _ _ ?_ (fun hH2 => ?_)
            · exact MK.out _ HB6.out
            clear hK K hH1
            (try simp only [Act.put, List.setIfInBounds_toArray, List.set_cons_zero, List.set_cons_succ])
            refine wpAnyH_ready (rs := [11]) (by kernel_rfl) (by simp) ?_
            refine AllReadyH.cons (o := ?o12) ?ho12 (fun K hK => ?step12) ?more12
            case ho12 => (simp only [List.getElem?_toArray, List.getElem?_cons_succ, List.getElem?_cons_zero]; rfl)
            case step12 =>
              go_simp
              refine hK.out _ _ ?_ (fun hH3 => ?_)
              · exact MK.out _ (HB6.out.alloc HB6.out.size _)
              clear hK K hH2
              (try simp only [Act.put, List.setIfInBounds_toArray, List.set_cons_zero, List.set_cons_succ])
              refine wpAnyH_ready (rs := [12]) (by kernel_rfl) (by simp) ?_
              refine AllReadyH.cons (o := ?o13) ?ho13 (fun K hK => ?step13) ?more13
              case ho13 => (simp only [List.getElem?_toArray, List.getElem?_cons_succ, List.getElem?_cons_zero]; rfl)
              case step13 =>
                refine step_append_lies _ (by rfl) _ _ 173 (by rfl) wr.heap.size 126 i0 (.agg #[.int .i64 0, .int .i64 0]) 2 16 Try.underlying173 hi hz0 hz1 hz2 (by rfl) (by decide) (.slice v5a (nthL z k).length v5c) (nthL z k).length (numCells p (nthL z k)) (by rfl) (World.ownsRow.alloc HV6.out _) ⟨w6.heap.size, 0, none⟩ 1 1 [.int .i64 p, .int .i64 x] (by rfl) (by rfl) (cell_two_new _ _ _ _) (by simp [Value.oneCell']) (by decide) (by rw [HLE.out]; unfold maxLen; omega) (by rw [HLE.out]; omega) (by have := HB6.out.size; simp; omega) _ rfl ?_; intro g8 c8 w8 hown8 hgrow8 hat8 hlt8; have HN8 := Lib.hid (show OwnN w8 wr.heap.size p (.slice (some ⟨g8, 0, none⟩) ((nthL z k).length + 1) c8) (nthL z k ++ [x]) from by unfold OwnN; rw [numCells_snoc, List.length_append]; exact hown8); have HB8 := Lib.hid (show Below wr.heap.size wr w8 from Below.grown (HB6.out.alloc HB6.out.size _) hgrow8 (by have := HB6.out.size; simp only [World.size_alloc]; omega) (fun q hq => (row_lt HV6.out hq).1)); clear hown8 hgrow8 hat8 hlt8; have q0 := (HX2.out.step HB8.out).m0; have qf := (HX2.out.step HB8.out).frozen 0; have ql : w.heap.size + 2 < w8.heap.size := (HX2.out.step HB8.out).lt
                refine hK.out _ _ ?_ (fun hH4 => ?_)
                · exact MK.out _ HB8.out
                clear hK K hH3
                (try simp only [Act.put, List.setIfInBounds_toArray, List.set_cons_zero, List.set_cons_succ])
                refine wpAnyH_ready (rs := [13]) (by kernel_rfl) (by simp) ?_
                refine AllReadyH.cons (o := ?o14) ?ho14 (fun K hK => ?step14) ?more14
                case ho14 => (simp only [List.getElem?_toArray, List.getElem?_cons_succ, List.getElem?_cons_zero]; rfl)
                case step14 =>
                  go_simp
                  refine hK.out _ _ ?_ (fun hH5 => ?_)
                  · exact MK.out _ (HB8.out.alloc HB8.out.size _)
                  clear hK K hH4
                  (try simp only [Act.put, List.setIfInBounds_toArray, List.set_cons_zero, List.set_cons_succ])
                  refine wpAnyH_ready (rs := [14]) (by kernel_rfl) (by simp) ?_
                  refine AllReadyH.cons (o := ?o15) ?ho15 (fun K hK => ?step15) ?more15
                  case ho15 => (simp only [List.getElem?_toArray, List.getElem?_cons_succ, List.getElem?_cons_zero]; rfl)
                  case step15 =>
                    refine step_append_lies _ (by rfl) _ _ 99 (by rfl) (w.heap.size + 3) 173 i1 (.slice none 0 0) 1 24 Try.underlying99 ji jz0 jz1 jz2 (by rfl) (by decide) (.slice va k vc) k us (by rfl) (World.ownsRow.alloc (row_step HOG.out HB8.out) _) ⟨w8.heap.size, 0, none⟩ 1 1 [.slice (some ⟨g8, 0, none⟩) ((nthL z k).length + 1) c8] (by rfl) (by rfl) (cell_one_new _ _ _) (by simp [Value.oneCell']) (by decide) (by unfold maxLen; omega) (by omega) (by have := HB8.out.size; simp; omega) _ rfl ?_; intro g cap w10 hown10 hgrow10 hat10 hlt10; have HA8 := Lib.hid (HB8.out.alloc HB8.out.size (.cells #[.slice (some ⟨g8, 0, none⟩) ((nthL z k).length + 1) c8] 173)); have hx10 := Boxes.grown (HX2.out.step HA8.out) hgrow10 (row_ge HOG.out (Nat.lt_succ_self _)); have t0 := hx10.m0; have tf := hx10.frozen 0; have tl : w.heap.size + 2 < w10.heap.size := hx10.lt; have K10 := Lib.hid (MKW.out _ ((hgrow10.block w.heap.size (by have := HA8.out.size; omega) (row_ge HOG.out (by omega)).symm).trans (HA8.out.block w.heap.size hl0)) ((hgrow10.block vb (by have := HA8.out.size; omega) (row_ge HOG.out (by omega)).symm).trans (HA8.out.block vb hvl)))
                    refine hK.out _ _ ?_ (fun hH6 => ?_)
                    · exact K10.out
                    clear hK K hH5
                    (try simp only [Act.put, List.setIfInBounds_toArray, List.set_cons_zero, List.set_cons_succ])
                    refine wpAnyH_take (i := 15) (oi := ?oi16) (v := ?v16) ?hi16 (by kernel_rfl) (by kernel_rfl) (by kernel_rfl) (fun _ _ _ h => h) (Or.inl ⟨?hw16, ?hy16⟩) hH6 ?rest16
                    case hi16 => (simp only [List.getElem?_toArray, List.getElem?_cons_succ, List.getElem?_cons_zero]; rfl)
                    case hw16 => rfl
                    case hy16 => (intro w hSw; (try dsimp only at hSw); go_simp; try with_reducible rfl)
                    (try simp only [Act.put, List.setIfInBounds_toArray, List.set_cons_zero, List.set_cons_succ])
                    refine wpAnyH_ready (rs := [16]) (by kernel_rfl) (by simp) ?_
                    refine AllReadyH.cons (o := ?o17) ?ho17 (fun K hK => ?step17) ?more17
                    case ho17 => (simp only [List.getElem?_toArray, List.getElem?_cons_succ, List.getElem?_cons_zero]; rfl)
                    case step17 =>
                      go_simp
                      refine hK.out _ _ ?_ (fun hH8 => ?_)
                      · exact MKS.out _ K10.out
                      clear hK K hH6
                      (try simp only [Act.put, List.setIfInBounds_toArray, List.set_cons_zero, List.set_cons_succ])
                      refine wpAnyH_done (by kernel_rfl) ?_ _
                      refine NoPanic.normal ?_
                      have HX10 := Lib.hid hx10
                      have H10 := Lib.hid hown10
                      have HY10 := Lib.hid (show Boxes w10 (w.heap.size + 1) 102 #[.slice none 0 0, .int .i64 0, .int .i64 0] from Boxes.grown (Boxes.step (HX1.out.step HB8.out) (al_b _ _)) hgrow10 (row_ge HOG.out (by omega)))
                      have HG10 := Lib.hid (show Boxes w10 w.heap.size 102 #[.slice (some ⟨b, 0, none⟩) z.length ca, .int .i64 p, .int .i64 (n : Int)] from Boxes.grown (Boxes.step (HG.out.step HB8.out) (al_b _ _)) hgrow10 (row_ge HOG.out (by omega)))
                      have HR10 := Lib.hid (show RowsN w10 (w.heap.size + 3) p (us ++ [.slice (some ⟨g8, 0, none⟩) ((nthL z k).length + 1) c8]) (besA z [v] (k + 1)) by
                        rw [HSN.out]
                        refine (HRW.out.snoc HB8.out HN8.out hszr).map fun u zs ho => ?_
                        exact row_other (World.ownsRow.alloc ho _) (World.ownsRow.alloc (row_step HOG.out HB8.out) _) hgrow10 (by decide))
                      have HB10 := Lib.hid (show Below w.heap.size w w10 from Below.grown (HBW.out.trans (HA8.out.mono (by omega))) hgrow10 (by have := HA8.out.size; omega) (fun q hq => by have := row_lt HOG.out hq; omega))
                      clear hx10 hown10 hgrow10 hat10 hlt10 c0 c1 c2 f0 g1 e0 e1 e2 s0 s1 s2
                      go_wp2_with fail
                      go_roundw
                      case rel => exact ⟨k + 1, some ⟨g, 0, none⟩, cap, us ++ [.slice (some ⟨g8, 0, none⟩) ((nthL z k).length + 1) c8], by omega, by go_num, HG10.out.other3 (by omega), HY10.out.other3 (by omega), HX10.out.set3 _, ⟨by rw [besA_len]; exact row_set H10.out (by omega) _, HR10.out.map fun u zs ho => row_set ho (by omega) _⟩, HB10.out.setCell (p := ⟨w.heap.size + 2, 0, none⟩) (Nat.le_add_right _ _) _⟩
                      case measure => simp [intOf]; omega
                    exact AllReadyH.nil
                  exact AllReadyH.nil
                exact AllReadyH.nil
              exact AllReadyH.nil
            exact AllReadyH.nil
          exact AllReadyH.nil
        exact AllReadyH.nil
      refine AllReadyH.cons (o := ?o18) ?ho18 (fun K hK => ?step18) ?more18
      case ho18 => (simp only [List.getElem?_toArray, List.getElem?_cons_succ, List.getElem?_cons_zero]; rfl)
      case step18 =>
        go_simp
        go_at_call 132; refine (cloneE_any p ai (nthL z k) n ci _ (HNU.out.step (drew_step _)) HLE.out (by omega)).mono ?_; rintro e w5 ⟨⟨v5, rfl, hv5⟩, hb5⟩; obtain ⟨v5a, v5c, rfl⟩ := rowForm hv5; have HB5 := Lib.hid (show Below wr.heap.size wr w5 from (drew_step wr).trans hb5); have HV5 := Lib.hid (show OwnN w5 wr.heap.size p (.slice v5a (nthL z k).length v5c) (nthL z k) from hv5); clear hv5 hb5; have z0 := (HX2.out.step HB5.out).m0; have zf := (HX2.out.step HB5.out).frozen 0; have zl : w.heap.size + 2 < w5.heap.size := (HX2.out.step HB5.out).lt
        go_wp2_with fail
        refine hK.out _ _ ?_ (fun hH0 => ?_)
        · exact MK.out _ HB5.out
        clear hK K hH
        (try simp only [Act.put, List.setIfInBounds_toArray, List.set_cons_zero, List.set_cons_succ])
        refine wpAnyH_ready (rs := [1, 10]) (by kernel_rfl) (by simp) ?_
        refine AllReadyH.cons (o := ?o19) ?ho19 (fun K hK => ?step19) ?more19
        case ho19 => (simp only [List.getElem?_toArray, List.getElem?_cons_succ, List.getElem?_cons_zero]; rfl)
        case step19 =>
          go_simp
          refine hK.out _ _ ?_ (fun hH1 => ?_)
          · exact hH0
          clear hK K hH0
          (try simp only [Act.put, List.setIfInBounds_toArray, List.set_cons_zero, List.set_cons_succ])
          refine wpAnyH_ready (rs := [10]) (by kernel_rfl) (by simp) ?_
          refine AllReadyH.cons (o := ?o20) ?ho20 (fun K hK => ?step20) ?more20
          case ho20 => (simp only [List.getElem?_toArray, List.getElem?_cons_succ, List.getElem?_cons_zero]; rfl)
          case step20 =>
            go_simp
            go_at_call 95; refine (number_any p x _).mono ?_; rintro e w6 ⟨rfl, hb6⟩; have HB6 := Lib.hid (HB5.out.trans (hb6.mono HB5.out.size)); have HV6 := Lib.hid (HV5.out.step hb6); clear hb6; have y0 := (HX2.out.step HB6.out).m0; have yf := (HX2.out.step HB6.out).frozen 0; have yl : w.heap.size + 2 < w6.heap.size := (HX2.out.step HB6.out).lt
            go_wp2_with fail
            refine hK.out _ _ ?_ (fun hH2 => ?_)
            · exact MK.out _ HB6.out
            clear hK K hH1
            (try simp only [Act.put, List.setIfInBounds_toArray, List.set_cons_zero, List.set_cons_succ])
            refine wpAnyH_ready (rs := [11]) (by kernel_rfl) (by simp) ?_
            refine AllReadyH.cons (o := ?o21) ?ho21 (fun K hK => ?step21) ?more21
            case ho21 => (simp only [List.getElem?_toArray, List.getElem?_cons_succ, List.getElem?_cons_zero]; rfl)
            case step21 =>
              go_simp
              refine hK.out _ _ ?_ (fun hH3 => ?_)
              · exact MK.out _ (HB6.out.alloc HB6.out.size _)
              clear hK K hH2
              (try simp only [Act.put, List.setIfInBounds_toArray, List.set_cons_zero, List.set_cons_succ])
              refine wpAnyH_ready (rs := [12]) (by kernel_rfl) (by simp) ?_
              refine AllReadyH.cons (o := ?o22) ?ho22 (fun K hK => ?step22) ?more22
              case ho22 => (simp only [List.getElem?_toArray, List.getElem?_cons_succ, List.getElem?_cons_zero]; rfl)
              case step22 =>
                refine step_append_lies _ (by rfl) _ _ 173 (by rfl) wr.heap.size 126 i0 (.agg #[.int .i64 0, .int .i64 0]) 2 16 Try.underlying173 hi hz0 hz1 hz2 (by rfl) (by decide) (.slice v5a (nthL z k).length v5c) (nthL z k).length (numCells p (nthL z k)) (by rfl) (World.ownsRow.alloc HV6.out _) ⟨w6.heap.size, 0, none⟩ 1 1 [.int .i64 p, .int .i64 x] (by rfl) (by rfl) (cell_two_new _ _ _ _) (by simp [Value.oneCell']) (by decide) (by rw [HLE.out]; unfold maxLen; omega) (by rw [HLE.out]; omega) (by have := HB6.out.size; simp; omega) _ rfl ?_; intro g8 c8 w8 hown8 hgrow8 hat8 hlt8; have HN8 := Lib.hid (show OwnN w8 wr.heap.size p (.slice (some ⟨g8, 0, none⟩) ((nthL z k).length + 1) c8) (nthL z k ++ [x]) from by unfold OwnN; rw [numCells_snoc, List.length_append]; exact hown8); have HB8 := Lib.hid (show Below wr.heap.size wr w8 from Below.grown (HB6.out.alloc HB6.out.size _) hgrow8 (by have := HB6.out.size; simp only [World.size_alloc]; omega) (fun q hq => (row_lt HV6.out hq).1)); clear hown8 hgrow8 hat8 hlt8; have q0 := (HX2.out.step HB8.out).m0; have qf := (HX2.out.step HB8.out).frozen 0; have ql : w.heap.size + 2 < w8.heap.size := (HX2.out.step HB8.out).lt
                refine hK.out _ _ ?_ (fun hH4 => ?_)
                · exact MK.out _ HB8.out
                clear hK K hH3
                (try simp only [Act.put, List.setIfInBounds_toArray, List.set_cons_zero, List.set_cons_succ])
                refine wpAnyH_ready (rs := [13]) (by kernel_rfl) (by simp) ?_
                refine AllReadyH.cons (o := ?o23) ?ho23 (fun K hK => ?step23) ?more23
                case ho23 => (simp only [List.getElem?_toArray, List.getElem?_cons_succ, List.getElem?_cons_zero]; rfl)
                case step23 =>
                  go_simp
                  refine hK.out _ _ ?_ (fun hH5 => ?_)
                  · exact MK.out _ (HB8.out.alloc HB8.out.size _)
                  clear hK K hH4
                  (try simp only [Act.put, List.setIfInBounds_toArray, List.set_cons_zero, List.set_cons_succ])
                  refine wpAnyH_ready (rs := [14]) (by kernel_rfl) (by simp) ?_
                  refine AllReadyH.cons (o := ?o24) ?ho24 (fun K hK => ?step24) ?more24
                  case ho24 => (simp only [List.getElem?_toArray, List.getElem?_cons_succ, List.getElem?_cons_zero]; rfl)
                  case step24 =>
                    refine step_append_lies _ (by rfl) _ _ 99 (by rfl) (w.heap.size + 3) 173 i1 (.slice none 0 0) 1 24 Try.underlying99 ji jz0 jz1 jz2 (by rfl) (by decide) (.slice va k vc) k us (by rfl) (World.ownsRow.alloc (row_step HOG.out HB8.out) _) ⟨w8.heap.size, 0, none⟩ 1 1 [.slice (some ⟨g8, 0, none⟩) ((nthL z k).length + 1) c8] (by rfl) (by rfl) (cell_one_new _ _ _) (by simp [Value.oneCell']) (by decide) (by unfold maxLen; omega) (by omega) (by have := HB8.out.size; simp; omega) _ rfl ?_; intro g cap w10 hown10 hgrow10 hat10 hlt10; have HA8 := Lib.hid (HB8.out.alloc HB8.out.size (.cells #[.slice (some ⟨g8, 0, none⟩) ((nthL z k).length + 1) c8] 173)); have hx10 := Boxes.grown (HX2.out.step HA8.out) hgrow10 (row_ge HOG.out (Nat.lt_succ_self _)); have t0 := hx10.m0; have tf := hx10.frozen 0; have tl : w.heap.size + 2 < w10.heap.size := hx10.lt; have K10 := Lib.hid (MKW.out _ ((hgrow10.block w.heap.size (by have := HA8.out.size; omega) (row_ge HOG.out (by omega)).symm).trans (HA8.out.block w.heap.size hl0)) ((hgrow10.block vb (by have := HA8.out.size; omega) (row_ge HOG.out (by omega)).symm).trans (HA8.out.block vb hvl)))
                    refine hK.out _ _ ?_ (fun hH6 => ?_)
                    · exact K10.out
                    clear hK K hH5
                    (try simp only [Act.put, List.setIfInBounds_toArray, List.set_cons_zero, List.set_cons_succ])
                    refine wpAnyH_take (i := 15) (oi := ?oi25) (v := ?v25) ?hi25 (by kernel_rfl) (by kernel_rfl) (by kernel_rfl) (fun _ _ _ h => h) (Or.inl ⟨?hw25, ?hy25⟩) hH6 ?rest25
                    case hi25 => (simp only [List.getElem?_toArray, List.getElem?_cons_succ, List.getElem?_cons_zero]; rfl)
                    case hw25 => rfl
                    case hy25 => (intro w hSw; (try dsimp only at hSw); go_simp; try with_reducible rfl)
                    (try simp only [Act.put, List.setIfInBounds_toArray, List.set_cons_zero, List.set_cons_succ])
                    refine wpAnyH_ready (rs := [16]) (by kernel_rfl) (by simp) ?_
                    refine AllReadyH.cons (o := ?o26) ?ho26 (fun K hK => ?step26) ?more26
                    case ho26 => (simp only [List.getElem?_toArray, List.getElem?_cons_succ, List.getElem?_cons_zero]; rfl)
                    case step26 =>
                      go_simp
                      refine hK.out _ _ ?_ (fun hH8 => ?_)
                      · exact MKS.out _ K10.out
                      clear hK K hH6
                      (try simp only [Act.put, List.setIfInBounds_toArray, List.set_cons_zero, List.set_cons_succ])
                      refine wpAnyH_done (by kernel_rfl) ?_ _
                      refine NoPanic.normal ?_
                      have HX10 := Lib.hid hx10
                      have H10 := Lib.hid hown10
                      have HY10 := Lib.hid (show Boxes w10 (w.heap.size + 1) 102 #[.slice none 0 0, .int .i64 0, .int .i64 0] from Boxes.grown (Boxes.step (HX1.out.step HB8.out) (al_b _ _)) hgrow10 (row_ge HOG.out (by omega)))
                      have HG10 := Lib.hid (show Boxes w10 w.heap.size 102 #[.slice (some ⟨b, 0, none⟩) z.length ca, .int .i64 p, .int .i64 (n : Int)] from Boxes.grown (Boxes.step (HG.out.step HB8.out) (al_b _ _)) hgrow10 (row_ge HOG.out (by omega)))
                      have HR10 := Lib.hid (show RowsN w10 (w.heap.size + 3) p (us ++ [.slice (some ⟨g8, 0, none⟩) ((nthL z k).length + 1) c8]) (besA z [v] (k + 1)) by
                        rw [HSN.out]
                        refine (HRW.out.snoc HB8.out HN8.out hszr).map fun u zs ho => ?_
                        exact row_other (World.ownsRow.alloc ho _) (World.ownsRow.alloc (row_step HOG.out HB8.out) _) hgrow10 (by decide))
                      have HB10 := Lib.hid (show Below w.heap.size w w10 from Below.grown (HBW.out.trans (HA8.out.mono (by omega))) hgrow10 (by have := HA8.out.size; omega) (fun q hq => by have := row_lt HOG.out hq; omega))
                      clear hx10 hown10 hgrow10 hat10 hlt10 c0 c1 c2 f0 g1 e0 e1 e2 s0 s1 s2
                      go_wp2_with fail
                      go_roundw
                      case rel => exact ⟨k + 1, some ⟨g, 0, none⟩, cap, us ++ [.slice (some ⟨g8, 0, none⟩) ((nthL z k).length + 1) c8], by omega, by go_num, HG10.out.other3 (by omega), HY10.out.other3 (by omega), HX10.out.set3 _, ⟨by rw [besA_len]; exact row_set H10.out (by omega) _, HR10.out.map fun u zs ho => row_set ho (by omega) _⟩, HB10.out.setCell (p := ⟨w.heap.size + 2, 0, none⟩) (Nat.le_add_right _ _) _⟩
                      case measure => simp [intOf]; omega
                    exact AllReadyH.nil
                  exact AllReadyH.nil
                exact AllReadyH.nil
              exact AllReadyH.nil
            exact AllReadyH.nil
          exact AllReadyH.nil
        refine AllReadyH.cons (o := ?o27) ?ho27 (fun K hK => ?step27) ?more27
        case ho27 => (simp only [List.getElem?_toArray, List.getElem?_cons_succ, List.getElem?_cons_zero]; rfl)
        case step27 =>
          go_simp
          go_at_call 95; refine (number_any p x _).mono ?_; rintro e w6 ⟨rfl, hb6⟩; have HB6 := Lib.hid (HB5.out.trans (hb6.mono HB5.out.size)); have HV6 := Lib.hid (HV5.out.step hb6); clear hb6; have y0 := (HX2.out.step HB6.out).m0; have yf := (HX2.out.step HB6.out).frozen 0; have yl : w.heap.size + 2 < w6.heap.size := (HX2.out.step HB6.out).lt
          go_wp2_with fail
          refine hK.out _ _ ?_ (fun hH1 => ?_)
          · exact MK.out _ HB6.out
          clear hK K hH0
          (try simp only [Act.put, List.setIfInBounds_toArray, List.set_cons_zero, List.set_cons_succ])
          refine wpAnyH_ready (rs := [1, 11]) (by kernel_rfl) (by simp) ?_
          refine AllReadyH.cons (o := ?o28) ?ho28 (fun K hK => ?step28) ?more28
          case ho28 => (simp only [List.getElem?_toArray, List.getElem?_cons_succ, List.getElem?_cons_zero]; rfl)
          case step28 =>
            go_simp
            refine hK.out _ _ ?_ (fun hH2 => ?_)
            · exact hH1
            clear hK K hH1
            (try simp only [Act.put, List.setIfInBounds_toArray, List.set_cons_zero, List.set_cons_succ])
            refine wpAnyH_ready (rs := [11]) (by kernel_rfl) (by simp) ?_
            refine AllReadyH.cons (o := ?o29) ?ho29 (fun K hK => ?step29) ?more29
            case ho29 => (simp only [List.getElem?_toArray, List.getElem?_cons_succ, List.getElem?_cons_zero]; rfl)
            case step29 =>
              go_simp
              refine hK.out _ _ ?_ (fun hH3 => ?_)
              · exact MK.out _ (HB6.out.alloc HB6.out.size _)
              clear hK K hH2
              (try simp only [Act.put, List.setIfInBounds_toArray, List.set_cons_zero, List.set_cons_succ])
              refine wpAnyH_ready (rs := [12]) (by kernel_rfl) (by simp) ?_
              refine AllReadyH.cons (o := ?o30) ?ho30 (fun K hK => ?step30) ?more30
              case ho30 => (simp only [List.getElem?_toArray, List.getElem?_cons_succ, List.getElem?_cons_zero]; rfl)
              case step30 =>
                refine step_append_lies _ (by rfl) _ _ 173 (by rfl) wr.heap.size 126 i0 (.agg #[.int .i64 0, .int .i64 0]) 2 16 Try.underlying173 hi hz0 hz1 hz2 (by rfl) (by decide) (.slice v5a (nthL z k).length v5c) (nthL z k).length (numCells p (nthL z k)) (by rfl) (World.ownsRow.alloc HV6.out _) ⟨w6.heap.size, 0, none⟩ 1 1 [.int .i64 p, .int .i64 x] (by rfl) (by rfl) (cell_two_new _ _ _ _) (by simp [Value.oneCell']) (by decide) (by rw [HLE.out]; unfold maxLen; omega) (by rw [HLE.out]; omega) (by have := HB6.out.size; simp; omega) _ rfl ?_; intro g8 c8 w8 hown8 hgrow8 hat8 hlt8; have HN8 := Lib.hid (show OwnN w8 wr.heap.size p (.slice (some ⟨g8, 0, none⟩) ((nthL z k).length + 1) c8) (nthL z k ++ [x]) from by unfold OwnN; rw [numCells_snoc, List.length_append]; exact hown8); have HB8 := Lib.hid (show Below wr.heap.size wr w8 from Below.grown (HB6.out.alloc HB6.out.size _) hgrow8 (by have := HB6.out.size; simp only [World.size_alloc]; omega) (fun q hq => (row_lt HV6.out hq).1)); clear hown8 hgrow8 hat8 hlt8; have q0 := (HX2.out.step HB8.out).m0; have qf := (HX2.out.step HB8.out).frozen 0; have ql : w.heap.size + 2 < w8.heap.size := (HX2.out.step HB8.out).lt
                refine hK.out _ _ ?_ (fun hH4 => ?_)
                · exact MK.out _ HB8.out
                clear hK K hH3
                (try simp only [Act.put, List.setIfInBounds_toArray, List.set_cons_zero, List.set_cons_succ])
                refine wpAnyH_ready (rs := [13]) (by kernel_rfl) (by simp) ?_
                refine AllReadyH.cons (o := ?o31) ?ho31 (fun K hK => ?step31) ?more31
                case ho31 => (simp only [List.getElem?_toArray, List.getElem?_cons_succ, List.getElem?_cons_zero]; rfl)
                case step31 =>
                  go_simp
                  refine hK.out _ _ ?_ (fun hH5 => ?_)
                  · exact MK.out _ (HB8.out.alloc HB8.out.size _)
                  clear hK K hH4
                  (try simp only [Act.put, List.setIfInBounds_toArray, List.set_cons_zero, List.set_cons_succ])
                  refine wpAnyH_ready (rs := [14]) (by kernel_rfl) (by simp) ?_
                  refine AllReadyH.cons (o := ?o32) ?ho32 (fun K hK => ?step32) ?more32
                  case ho32 => (simp only [List.getElem?_toArray, List.getElem?_cons_succ, List.getElem?_cons_zero]; rfl)
                  case step32 =>
                    refine step_append_lies _ (by rfl) _ _ 99 (by rfl) (w.heap.size + 3) 173 i1 (.slice none 0 0) 1 24 Try.underlying99 ji jz0 jz1 jz2 (by rfl) (by decide) (.slice va k vc) k us (by rfl) (World.ownsRow.alloc (row_step HOG.out HB8.out) _) ⟨w8.heap.size, 0, none⟩ 1 1 [.slice (some ⟨g8, 0, none⟩) ((nthL z k).length + 1) c8] (by rfl) (by rfl) (cell_one_new _ _ _) (by simp [Value.oneCell']) (by decide) (by unfold maxLen; omega) (by omega) (by have := HB8.out.size; simp; omega) _ rfl ?_; intro g cap w10 hown10 hgrow10 hat10 hlt10; have HA8 := Lib.hid (HB8.out.alloc HB8.out.size (.cells #[.slice (some ⟨g8, 0, none⟩) ((nthL z k).length + 1) c8] 173)); have hx10 := Boxes.grown (HX2.out.step HA8.out) hgrow10 (row_ge HOG.out (Nat.lt_succ_self _)); have t0 := hx10.m0; have tf := hx10.frozen 0; have tl : w.heap.size + 2 < w10.heap.size := hx10.lt; have K10 := Lib.hid (MKW.out _ ((hgrow10.block w.heap.size (by have := HA8.out.size; omega) (row_ge HOG.out (by omega)).symm).trans (HA8.out.block w.heap.size hl0)) ((hgrow10.block vb (by have := HA8.out.size; omega) (row_ge HOG.out (by omega)).symm).trans (HA8.out.block vb hvl)))
                    refine hK.out _ _ ?_ (fun hH6 => ?_)
                    · exact K10.out
                    clear hK K hH5
                    (try simp only [Act.put, List.setIfInBounds_toArray, List.set_cons_zero, List.set_cons_succ])
                    refine wpAnyH_take (i := 15) (oi := ?oi33) (v := ?v33) ?hi33 (by kernel_rfl) (by kernel_rfl) (by kernel_rfl) (fun _ _ _ h => h) (Or.inl ⟨?hw33, ?hy33⟩) hH6 ?rest33
                    case hi33 => (simp only [List.getElem?_toArray, List.getElem?_cons_succ, List.getElem?_cons_zero]; rfl)
                    case hw33 => rfl
                    case hy33 => (intro w hSw; (try dsimp only at hSw); go_simp; try with_reducible rfl)
                    (try simp only [Act.put, List.setIfInBounds_toArray, List.set_cons_zero, List.set_cons_succ])
                    refine wpAnyH_ready (rs := [16]) (by kernel_rfl) (by simp) ?_
                    refine AllReadyH.cons (o := ?o34) ?ho34 (fun K hK => ?step34) ?more34
                    case ho34 => (simp only [List.getElem?_toArray, List.getElem?_cons_succ, List.getElem?_cons_zero]; rfl)
                    case step34 =>
                      go_simp
                      refine hK.out _ _ ?_ (fun hH8 => ?_)
                      · exact MKS.out _ K10.out
                      clear hK K hH6
                      (try simp only [Act.put, List.setIfInBounds_toArray, List.set_cons_zero, List.set_cons_succ])
                      refine wpAnyH_done (by kernel_rfl) ?_ _
                      refine NoPanic.normal ?_
                      have HX10 := Lib.hid hx10
                      have H10 := Lib.hid hown10
                      have HY10 := Lib.hid (show Boxes w10 (w.heap.size + 1) 102 #[.slice none 0 0, .int .i64 0, .int .i64 0] from Boxes.grown (Boxes.step (HX1.out.step HB8.out) (al_b _ _)) hgrow10 (row_ge HOG.out (by omega)))
                      have HG10 := Lib.hid (show Boxes w10 w.heap.size 102 #[.slice (some ⟨b, 0, none⟩) z.length ca, .int .i64 p, .int .i64 (n : Int)] from Boxes.grown (Boxes.step (HG.out.step HB8.out) (al_b _ _)) hgrow10 (row_ge HOG.out (by omega)))
                      have HR10 := Lib.hid (show RowsN w10 (w.heap.size + 3) p (us ++ [.slice (some ⟨g8, 0, none⟩) ((nthL z k).length + 1) c8]) (besA z [v] (k + 1)) by
                        rw [HSN.out]
                        refine (HRW.out.snoc HB8.out HN8.out hszr).map fun u zs ho => ?_
                        exact row_other (World.ownsRow.alloc ho _) (World.ownsRow.alloc (row_step HOG.out HB8.out) _) hgrow10 (by decide))
                      have HB10 := Lib.hid (show Below w.heap.size w w10 from Below.grown (HBW.out.trans (HA8.out.mono (by omega))) hgrow10 (by have := HA8.out.size; omega) (fun q hq => by have := row_lt HOG.out hq; omega))
                      clear hx10 hown10 hgrow10 hat10 hlt10 c0 c1 c2 f0 g1 e0 e1 e2 s0 s1 s2
                      go_wp2_with fail
                      go_roundw
                      case rel => exact ⟨k + 1, some ⟨g, 0, none⟩, cap, us ++ [.slice (some ⟨g8, 0, none⟩) ((nthL z k).length + 1) c8], by omega, by go_num, HG10.out.other3 (by omega), HY10.out.other3 (by omega), HX10.out.set3 _, ⟨by rw [besA_len]; exact row_set H10.out (by omega) _, HR10.out.map fun u zs ho => row_set ho (by omega) _⟩, HB10.out.setCell (p := ⟨w.heap.size + 2, 0, none⟩) (Nat.le_add_right _ _) _⟩
                      case measure => simp [intOf]; omega
                    exact AllReadyH.nil
                  exact AllReadyH.nil
                exact AllReadyH.nil
              exact AllReadyH.nil
            exact AllReadyH.nil
          refine AllReadyH.cons (o := ?o35) ?ho35 (fun K hK => ?step35) ?more35
          case ho35 => (simp only [List.getElem?_toArray, List.getElem?_cons_succ, List.getElem?_cons_zero]; rfl)
          case step35 =>
            go_simp
            refine hK.out _ _ ?_ (fun hH2 => ?_)
            · exact MK.out _ (HB6.out.alloc HB6.out.size _)
            clear hK K hH1
            (try simp only [Act.put, List.setIfInBounds_toArray, List.set_cons_zero, List.set_cons_succ])
            refine wpAnyH_ready (rs := [1, 12]) (by kernel_rfl) (by simp) ?_
            refine AllReadyH.cons (o := ?o36) ?ho36 (fun K hK => ?step36) ?more36
            case ho36 => (simp only [List.getElem?_toArray, List.getElem?_cons_succ, List.getElem?_cons_zero]; rfl)
            case step36 =>
              go_simp
              refine hK.out _ _ ?_ (fun hH3 => ?_)
              · exact hH2
              clear hK K hH2
              (try simp only [Act.put, List.setIfInBounds_toArray, List.set_cons_zero, List.set_cons_succ])
              refine wpAnyH_ready (rs := [12]) (by kernel_rfl) (by simp) ?_
              refine AllReadyH.cons (o := ?o37) ?ho37 (fun K hK => ?step37) ?more37
              case ho37 => (simp only [List.getElem?_toArray, List.getElem?_cons_succ, List.getElem?_cons_zero]; rfl)
              case step37 =>
                refine step_append_lies _ (by rfl) _ _ 173 (by rfl) wr.heap.size 126 i0 (.agg #[.int .i64 0, .int .i64 0]) 2 16 Try.underlying173 hi hz0 hz1 hz2 (by rfl) (by decide) (.slice v5a (nthL z k).length v5c) (nthL z k).length (numCells p (nthL z k)) (by rfl) (World.ownsRow.alloc HV6.out _) ⟨w6.heap.size, 0, none⟩ 1 1 [.int .i64 p, .int .i64 x] (by rfl) (by rfl) (cell_two_new _ _ _ _) (by simp [Value.oneCell']) (by decide) (by rw [HLE.out]; unfold maxLen; omega) (by rw [HLE.out]; omega) (by have := HB6.out.size; simp; omega) _ rfl ?_; intro g8 c8 w8 hown8 hgrow8 hat8 hlt8; have HN8 := Lib.hid (show OwnN w8 wr.heap.size p (.slice (some ⟨g8, 0, none⟩) ((nthL z k).length + 1) c8) (nthL z k ++ [x]) from by unfold OwnN; rw [numCells_snoc, List.length_append]; exact hown8); have HB8 := Lib.hid (show Below wr.heap.size wr w8 from Below.grown (HB6.out.alloc HB6.out.size _) hgrow8 (by have := HB6.out.size; simp only [World.size_alloc]; omega) (fun q hq => (row_lt HV6.out hq).1)); clear hown8 hgrow8 hat8 hlt8; have q0 := (HX2.out.step HB8.out).m0; have qf := (HX2.out.step HB8.out).frozen 0; have ql : w.heap.size + 2 < w8.heap.size := (HX2.out.step HB8.out).lt
                refine hK.out _ _ ?_ (fun hH4 => ?_)
                · exact MK.out _ HB8.out
                clear hK K hH3
                (try simp only [Act.put, List.setIfInBounds_toArray, List.set_cons_zero, List.set_cons_succ])
                refine wpAnyH_ready (rs := [13]) (by kernel_rfl) (by simp) ?_
                refine AllReadyH.cons (o := ?o38) ?ho38 (fun K hK => ?step38) ?more38
                case ho38 => (simp only [List.getElem?_toArray, List.getElem?_cons_succ, List.getElem?_cons_zero]; rfl)
                case step38 =>
                  go_simp
                  refine hK.out _ _ ?_ (fun hH5 => ?_)
                  · exact MK.out _ (HB8.out.alloc HB8.out.size _)
                  clear hK K hH4
                  (try simp only [Act.put, List.setIfInBounds_toArray, List.set_cons_zero, List.set_cons_succ])
                  refine wpAnyH_ready (rs := [14]) (by kernel_rfl) (by simp) ?_
                  refine AllReadyH.cons (o := ?o39) ?ho39 (fun K hK => ?step39) ?more39
                  case ho39 => (simp only [List.getElem?_toArray, List.getElem?_cons_succ, List.getElem?_cons_zero]; rfl)
                  case step39 =>
                    refine step_append_lies _ (by rfl) _ _ 99 (by rfl) (w.heap.size + 3) 173 i1 (.slice none 0 0) 1 24 Try.underlying99 ji jz0 jz1 jz2 (by rfl) (by decide) (.slice va k vc) k us (by rfl) (World.ownsRow.alloc (row_step HOG.out HB8.out) _) ⟨w8.heap.size, 0, none⟩ 1 1 [.slice (some ⟨g8, 0, none⟩) ((nthL z k).length + 1) c8] (by rfl) (by rfl) (cell_one_new _ _ _) (by simp [Value.oneCell']) (by decide) (by unfold maxLen; omega) (by omega) (by have := HB8.out.size; simp; omega) _ rfl ?_; intro g cap w10 hown10 hgrow10 hat10 hlt10; have HA8 := Lib.hid (HB8.out.alloc HB8.out.size (.cells #[.slice (some ⟨g8, 0, none⟩) ((nthL z k).length + 1) c8] 173)); have hx10 := Boxes.grown (HX2.out.step HA8.out) hgrow10 (row_ge HOG.out (Nat.lt_succ_self _)); have t0 := hx10.m0; have tf := hx10.frozen 0; have tl : w.heap.size + 2 < w10.heap.size := hx10.lt; have K10 := Lib.hid (MKW.out _ ((hgrow10.block w.heap.size (by have := HA8.out.size; omega) (row_ge HOG.out (by omega)).symm).trans (HA8.out.block w.heap.size hl0)) ((hgrow10.block vb (by have := HA8.out.size; omega) (row_ge HOG.out (by omega)).symm).trans (HA8.out.block vb hvl)))
                    refine hK.out _ _ ?_ (fun hH6 => ?_)
                    · exact K10.out
                    clear hK K hH5
                    (try simp only [Act.put, List.setIfInBounds_toArray, List.set_cons_zero, List.set_cons_succ])
                    refine wpAnyH_take (i := 15) (oi := ?oi40) (v := ?v40) ?hi40 (by kernel_rfl) (by kernel_rfl) (by kernel_rfl) (fun _ _ _ h => h) (Or.inl ⟨?hw40, ?hy40⟩) hH6 ?rest40
                    case hi40 => (simp only [List.getElem?_toArray, List.getElem?_cons_succ, List.getElem?_cons_zero]; rfl)
                    case hw40 => rfl
                    case hy40 => (intro w hSw; (try dsimp only at hSw); go_simp; try with_reducible rfl)
                    (try simp only [Act.put, List.setIfInBounds_toArray, List.set_cons_zero, List.set_cons_succ])
                    refine wpAnyH_ready (rs := [16]) (by kernel_rfl) (by simp) ?_
                    refine AllReadyH.cons (o := ?o41) ?ho41 (fun K hK => ?step41) ?more41
                    case ho41 => (simp only [List.getElem?_toArray, List.getElem?_cons_succ, List.getElem?_cons_zero]; rfl)
                    case step41 =>
                      go_simp
                      refine hK.out _ _ ?_ (fun hH8 => ?_)
                      · exact MKS.out _ K10.out
                      clear hK K hH6
                      (try simp only [Act.put, List.setIfInBounds_toArray, List.set_cons_zero, List.set_cons_succ])
                      refine wpAnyH_done (by kernel_rfl) ?_ _
                      refine NoPanic.normal ?_
                      have HX10 := Lib.hid hx10
                      have H10 := Lib.hid hown10
                      have HY10 := Lib.hid (show Boxes w10 (w.heap.size + 1) 102 #[.slice none 0 0, .int .i64 0, .int .i64 0] from Boxes.grown (Boxes.step (HX1.out.step HB8.out) (al_b _ _)) hgrow10 (row_ge HOG.out (by omega)))
                      have HG10 := Lib.hid (show Boxes w10 w.heap.size 102 #[.slice (some ⟨b, 0, none⟩) z.length ca, .int .i64 p, .int .i64 (n : Int)] from Boxes.grown (Boxes.step (HG.out.step HB8.out) (al_b _ _)) hgrow10 (row_ge HOG.out (by omega)))
                      have HR10 := Lib.hid (show RowsN w10 (w.heap.size + 3) p (us ++ [.slice (some ⟨g8, 0, none⟩) ((nthL z k).length + 1) c8]) (besA z [v] (k + 1)) by
                        rw [HSN.out]
                        refine (HRW.out.snoc HB8.out HN8.out hszr).map fun u zs ho => ?_
                        exact row_other (World.ownsRow.alloc ho _) (World.ownsRow.alloc (row_step HOG.out HB8.out) _) hgrow10 (by decide))
                      have HB10 := Lib.hid (show Below w.heap.size w w10 from Below.grown (HBW.out.trans (HA8.out.mono (by omega))) hgrow10 (by have := HA8.out.size; omega) (fun q hq => by have := row_lt HOG.out hq; omega))
                      clear hx10 hown10 hgrow10 hat10 hlt10 c0 c1 c2 f0 g1 e0 e1 e2 s0 s1 s2
                      go_wp2_with fail
                      go_roundw
                      case rel => exact ⟨k + 1, some ⟨g, 0, none⟩, cap, us ++ [.slice (some ⟨g8, 0, none⟩) ((nthL z k).length + 1) c8], by omega, by go_num, HG10.out.other3 (by omega), HY10.out.other3 (by omega), HX10.out.set3 _, ⟨by rw [besA_len]; exact row_set H10.out (by omega) _, HR10.out.map fun u zs ho => row_set ho (by omega) _⟩, HB10.out.setCell (p := ⟨w.heap.size + 2, 0, none⟩) (Nat.le_add_right _ _) _⟩
                      case measure => simp [intOf]; omega
                    exact AllReadyH.nil
                  exact AllReadyH.nil
                exact AllReadyH.nil
              exact AllReadyH.nil
            refine AllReadyH.cons (o := ?o42) ?ho42 (fun K hK => ?step42) ?more42
            case ho42 => (simp only [List.getElem?_toArray, List.getElem?_cons_succ, List.getElem?_cons_zero]; rfl)
            case step42 =>
              refine step_append_lies _ (by rfl) _ _ 173 (by rfl) wr.heap.size 126 i0 (.agg #[.int .i64 0, .int .i64 0]) 2 16 Try.underlying173 hi hz0 hz1 hz2 (by rfl) (by decide) (.slice v5a (nthL z k).length v5c) (nthL z k).length (numCells p (nthL z k)) (by rfl) (World.ownsRow.alloc HV6.out _) ⟨w6.heap.size, 0, none⟩ 1 1 [.int .i64 p, .int .i64 x] (by rfl) (by rfl) (cell_two_new _ _ _ _) (by simp [Value.oneCell']) (by decide) (by rw [HLE.out]; unfold maxLen; omega) (by rw [HLE.out]; omega) (by have := HB6.out.size; simp; omega) _ rfl ?_; intro g8 c8 w8 hown8 hgrow8 hat8 hlt8; have HN8 := Lib.hid (show OwnN w8 wr.heap.size p (.slice (some ⟨g8, 0, none⟩) ((nthL z k).length + 1) c8) (nthL z k ++ [x]) from by unfold OwnN; rw [numCells_snoc, List.length_append]; exact hown8); have HB8 := Lib.hid (show Below wr.heap.size wr w8 from Below.grown (HB6.out.alloc HB6.out.size _) hgrow8 (by have := HB6.out.size; simp only [World.size_alloc]; omega) (fun q hq => (row_lt HV6.out hq).1)); clear hown8 hgrow8 hat8 hlt8; have q0 := (HX2.out.step HB8.out).m0; have qf := (HX2.out.step HB8.out).frozen 0; have ql : w.heap.size + 2 < w8.heap.size := (HX2.out.step HB8.out).lt
              refine hK.out _ _ ?_ (fun hH3 => ?_)
              · exact MK.out _ HB8.out
              clear hK K hH2
              (try simp only [Act.put, List.setIfInBounds_toArray, List.set_cons_zero, List.set_cons_succ])
              refine wpAnyH_ready (rs := [1, 13]) (by kernel_rfl) (by simp) ?_
              refine AllReadyH.cons (o := ?o43) ?ho43 (fun K hK => ?step43) ?more43
              case ho43 => (simp only [List.getElem?_toArray, List.getElem?_cons_succ, List.getElem?_cons_zero]; rfl)
              case step43 =>
                go_simp
                refine hK.out _ _ ?_ (fun hH4 => ?_)
                · exact hH3
                clear hK K hH3
                (try simp only [Act.put, List.setIfInBounds_toArray, List.set_cons_zero, List.set_cons_succ])
                refine wpAnyH_ready (rs := [13]) (by kernel_rfl) (by simp) ?_
                refine AllReadyH.cons (o := ?o44) ?ho44 (fun K hK => ?step44) ?more44
                case ho44 => (simp only [List.getElem?_toArray, List.getElem?_cons_succ, List.getElem?_cons_zero]; rfl)
                case step44 =>
                  go_simp
                  refine hK.out _ _ ?_ (fun hH5 => ?_)
                  · exact MK.out _ (HB8.out.alloc HB8.out.size _)
                  clear hK K hH4
                  (try simp only [Act.put, List.setIfInBounds_toArray, List.set_cons_zero, List.set_cons_succ])
                  refine wpAnyH_ready (rs := [14]) (by kernel_rfl) (by simp) ?_
                  refine AllReadyH.cons (o := ?o45) ?ho45 (fun K hK => ?step45) ?more45
                  case ho45 => (simp only [List.getElem?_toArray, List.getElem?_cons_succ, List.getElem?_cons_zero]; rfl)
                  case step45 =>
                    refine step_append_lies _ (by rfl) _ _ 99 (by rfl) (w.heap.size + 3) 173 i1 (.slice none 0 0) 1 24 Try.underlying99 ji jz0 jz1 jz2 (by rfl) (by decide) (.slice va k vc) k us (by rfl) (World.ownsRow.alloc (row_step HOG.out HB8.out) _) ⟨w8.heap.size, 0, none⟩ 1 1 [.slice (some ⟨g8, 0, none⟩) ((nthL z k).length + 1) c8] (by rfl) (by rfl) (cell_one_new _ _ _) (by simp [Value.oneCell']) (by decide) (by unfold maxLen; omega) (by omega) (by have := HB8.out.size; simp; omega) _ rfl ?_; intro g cap w10 hown10 hgrow10 hat10 hlt10; have HA8 := Lib.hid (HB8.out.alloc HB8.out.size (.cells #[.slice (some ⟨g8, 0, none⟩) ((nthL z k).length + 1) c8] 173)); have hx10 := Boxes.grown (HX2.out.step HA8.out) hgrow10 (row_ge HOG.out (Nat.lt_succ_self _)); have t0 := hx10.m0; have tf := hx10.frozen 0; have tl : w.heap.size + 2 < w10.heap.size := hx10.lt; have K10 := Lib.hid (MKW.out _ ((hgrow10.block w.heap.size (by have := HA8.out.size; omega) (row_ge HOG.out (by omega)).symm).trans (HA8.out.block w.heap.size hl0)) ((hgrow10.block vb (by have := HA8.out.size; omega) (row_ge HOG.out (by omega)).symm).trans (HA8.out.block vb hvl)))
                    refine hK.out _ _ ?_ (fun hH6 => ?_)
                    · exact K10.out
                    clear hK K hH5
                    (try simp only [Act.put, List.setIfInBounds_toArray, List.set_cons_zero, List.set_cons_succ])
                    refine wpAnyH_take (i := 15) (oi := ?oi46) (v := ?v46) ?hi46 (by kernel_rfl) (by kernel_rfl) (by kernel_rfl) (fun _ _ _ h => h) (Or.inl ⟨?hw46, ?hy46⟩) hH6 ?rest46
                    case hi46 => (simp only [List.getElem?_toArray, List.getElem?_cons_succ, List.getElem?_cons_zero]; rfl)
                    case hw46 => rfl
                    case hy46 => (intro w hSw; (try dsimp only at hSw); go_simp; try with_reducible rfl)
                    (try simp only [Act.put, List.setIfInBounds_toArray, List.set_cons_zero, List.set_cons_succ])
                    refine wpAnyH_ready (rs := [16]) (by kernel_rfl) (by simp) ?_
                    refine AllReadyH.cons (o := ?o47) ?ho47 (fun K hK => ?step47) ?more47
                    case ho47 => (simp only [List.getElem?_toArray, List.getElem?_cons_succ, List.getElem?_cons_zero]; rfl)
                    case step47 =>
                      go_simp
                      refine hK.out _ _ ?_ (fun hH8 => ?_)
                      · exact MKS.out _ K10.out
                      clear hK K hH6
                      (try simp only [Act.put, List.setIfInBounds_toArray, List.set_cons_zero, List.set_cons_succ])
                      refine wpAnyH_done (by kernel_rfl) ?_ _
                      refine NoPanic.normal ?_
                      have HX10 := Lib.hid hx10
                      have H10 := Lib.hid hown10
                      have HY10 := Lib.hid (show Boxes w10 (w.heap.size + 1) 102 #[.slice none 0 0, .int .i64 0, .int .i64 0] from Boxes.grown (Boxes.step (HX1.out.step HB8.out) (al_b _ _)) hgrow10 (row_ge HOG.out (by omega)))
                      have HG10 := Lib.hid (show Boxes w10 w.heap.size 102 #[.slice (some ⟨b, 0, none⟩) z.length ca, .int .i64 p, .int .i64 (n : Int)] from Boxes.grown (Boxes.step (HG.out.step HB8.out) (al_b _ _)) hgrow10 (row_ge HOG.out (by omega)))
                      have HR10 := Lib.hid (show RowsN w10 (w.heap.size + 3) p (us ++ [.slice (some ⟨g8, 0, none⟩) ((nthL z k).length + 1) c8]) (besA z [v] (k + 1)) by
                        rw [HSN.out]
                        refine (HRW.out.snoc HB8.out HN8.out hszr).map fun u zs ho => ?_
                        exact row_other (World.ownsRow.alloc ho _) (World.ownsRow.alloc (row_step HOG.out HB8.out) _) hgrow10 (by decide))
                      have HB10 := Lib.hid (show Below w.heap.size w w10 from Below.grown (HBW.out.trans (HA8.out.mono (by omega))) hgrow10 (by have := HA8.out.size; omega) (fun q hq => by have := row_lt HOG.out hq; omega))
                      clear hx10 hown10 hgrow10 hat10 hlt10 c0 c1 c2 f0 g1 e0 e1 e2 s0 s1 s2
                      go_wp2_with fail
                      go_roundw
                      case rel => exact ⟨k + 1, some ⟨g, 0, none⟩, cap, us ++ [.slice (some ⟨g8, 0, none⟩) ((nthL z k).length + 1) c8], by omega, by go_num, HG10.out.other3 (by omega), HY10.out.other3 (by omega), HX10.out.set3 _, ⟨by rw [besA_len]; exact row_set H10.out (by omega) _, HR10.out.map fun u zs ho => row_set ho (by omega) _⟩, HB10.out.setCell (p := ⟨w.heap.size + 2, 0, none⟩) (Nat.le_add_right _ _) _⟩
                      case measure => simp [intOf]; omega
                    exact AllReadyH.nil
                  exact AllReadyH.nil
                exact AllReadyH.nil
              refine AllReadyH.cons (o := ?o48) ?ho48 (fun K hK => ?step48) ?more48
              case ho48 => (simp only [List.getElem?_toArray, List.getElem?_cons_succ, List.getElem?_cons_zero]; rfl)
              case step48 =>
                go_simp
                refine hK.out _ _ ?_ (fun hH4 => ?_)
                · exact MK.out _ (HB8.out.alloc HB8.out.size _)
                clear hK K hH3
                (try simp only [Act.put, List.setIfInBounds_toArray, List.set_cons_zero, List.set_cons_succ])
                refine wpAnyH_ready (rs := [1]) (by kernel_rfl) (by simp) ?_
                refine AllReadyH.cons (o := ?o49) ?ho49 (fun K hK => ?step49) ?more49
                case ho49 => (simp only [List.getElem?_toArray, List.getElem?_cons_succ, List.getElem?_cons_zero]; rfl)
                case step49 =>
                  go_simp
                  refine hK.out _ _ ?_ (fun hH5 => ?_)
                  · exact hH4
                  clear hK K hH4
                  (try simp only [Act.put, List.setIfInBounds_toArray, List.set_cons_zero, List.set_cons_succ])
                  refine wpAnyH_ready (rs := [14]) (by kernel_rfl) (by simp) ?_
                  refine AllReadyH.cons (o := ?o50) ?ho50 (fun K hK => ?step50) ?more50
                  case ho50 => (simp only [List.getElem?_toArray, List.getElem?_cons_succ, List.getElem?_cons_zero]; rfl)
                  case step50 =>
                    refine step_append_lies _ (by rfl) _ _ 99 (by rfl) (w.heap.size + 3) 173 i1 (.slice none 0 0) 1 24 Try.underlying99 ji jz0 jz1 jz2 (by rfl) (by decide) (.slice va k vc) k us (by rfl) (World.ownsRow.alloc (row_step HOG.out HB8.out) _) ⟨w8.heap.size, 0, none⟩ 1 1 [.slice (some ⟨g8, 0, none⟩) ((nthL z k).length + 1) c8] (by rfl) (by rfl) (cell_one_new _ _ _) (by simp [Value.oneCell']) (by decide) (by unfold maxLen; omega) (by omega) (by have := HB8.out.size; simp; omega) _ rfl ?_; intro g cap w10 hown10 hgrow10 hat10 hlt10; have HA8 := Lib.hid (HB8.out.alloc HB8.out.size (.cells #[.slice (some ⟨g8, 0, none⟩) ((nthL z k).length + 1) c8] 173)); have hx10 := Boxes.grown (HX2.out.step HA8.out) hgrow10 (row_ge HOG.out (Nat.lt_succ_self _)); have t0 := hx10.m0; have tf := hx10.frozen 0; have tl : w.heap.size + 2 < w10.heap.size := hx10.lt; have K10 := Lib.hid (MKW.out _ ((hgrow10.block w.heap.size (by have := HA8.out.size; omega) (row_ge HOG.out (by omega)).symm).trans (HA8.out.block w.heap.size hl0)) ((hgrow10.block vb (by have := HA8.out.size; omega) (row_ge HOG.out (by omega)).symm).trans (HA8.out.block vb hvl)))
                    refine hK.out _ _ ?_ (fun hH6 => ?_)
                    · exact K10.out
                    clear hK K hH5
                    (try simp only [Act.put, List.setIfInBounds_toArray, List.set_cons_zero, List.set_cons_succ])
                    refine wpAnyH_take (i := 15) (oi := ?oi51) (v := ?v51) ?hi51 (by kernel_rfl) (by kernel_rfl) (by kernel_rfl) (fun _ _ _ h => h) (Or.inl ⟨?hw51, ?hy51⟩) hH6 ?rest51
                    case hi51 => (simp only [List.getElem?_toArray, List.getElem?_cons_succ, List.getElem?_cons_zero]; rfl)
                    case hw51 => rfl
                    case hy51 => (intro w hSw; (try dsimp only at hSw); go_simp; try with_reducible rfl)
                    (try simp only [Act.put, List.setIfInBounds_toArray, List.set_cons_zero, List.set_cons_succ])
                    refine wpAnyH_ready (rs := [16]) (by kernel_rfl) (by simp) ?_
                    refine AllReadyH.cons (o := ?o52) ?ho52 (fun K hK => ?step52) ?more52
                    case ho52 => (simp only [List.getElem?_toArray, List.getElem?_cons_succ, List.getElem?_cons_zero]; rfl)
                    case step52 =>
                      go_simp
                      refine hK.out _ _ ?_ (fun hH8 => ?_)
                      · exact MKS.out _ K10.out
                      clear hK K hH6
                      (try simp only [Act.put, List.setIfInBounds_toArray, List.set_cons_zero, List.set_cons_succ])
                      refine wpAnyH_done (by kernel_rfl) ?_ _
                      refine NoPanic.normal ?_
                      have HX10 := Lib.hid hx10
                      have H10 := Lib.hid hown10
                      have HY10 := Lib.hid (show Boxes w10 (w.heap.size + 1) 102 #[.slice none 0 0, .int .i64 0, .int .i64 0] from Boxes.grown (Boxes.step (HX1.out.step HB8.out) (al_b _ _)) hgrow10 (row_ge HOG.out (by omega)))
                      have HG10 := Lib.hid (show Boxes w10 w.heap.size 102 #[.slice (some ⟨b, 0, none⟩) z.length ca, .int .i64 p, .int .i64 (n : Int)] from Boxes.grown (Boxes.step (HG.out.step HB8.out) (al_b _ _)) hgrow10 (row_ge HOG.out (by omega)))
                      have HR10 := Lib.hid (show RowsN w10 (w.heap.size + 3) p (us ++ [.slice (some ⟨g8, 0, none⟩) ((nthL z k).length + 1) c8]) (besA z [v] (k + 1)) by
                        rw [HSN.out]
                        refine (HRW.out.snoc HB8.out HN8.out hszr).map fun u zs ho => ?_
                        exact row_other (World.ownsRow.alloc ho _) (World.ownsRow.alloc (row_step HOG.out HB8.out) _) hgrow10 (by decide))
                      have HB10 := Lib.hid (show Below w.heap.size w w10 from Below.grown (HBW.out.trans (HA8.out.mono (by omega))) hgrow10 (by have := HA8.out.size; omega) (fun q hq => by have := row_lt HOG.out hq; omega))
                      clear hx10 hown10 hgrow10 hat10 hlt10 c0 c1 c2 f0 g1 e0 e1 e2 s0 s1 s2
                      go_wp2_with fail
                      go_roundw
                      case rel => exact ⟨k + 1, some ⟨g, 0, none⟩, cap, us ++ [.slice (some ⟨g8, 0, none⟩) ((nthL z k).length + 1) c8], by omega, by go_num, HG10.out.other3 (by omega), HY10.out.other3 (by omega), HX10.out.set3 _, ⟨by rw [besA_len]; exact row_set H10.out (by omega) _, HR10.out.map fun u zs ho => row_set ho (by omega) _⟩, HB10.out.setCell (p := ⟨w.heap.size + 2, 0, none⟩) (Nat.le_add_right _ _) _⟩
                      case measure => simp [intOf]; omega
                    exact AllReadyH.nil
                  exact AllReadyH.nil
                exact AllReadyH.nil
              exact AllReadyH.nil
            exact AllReadyH.nil
          exact AllReadyH.nil
        exact AllReadyH.nil
      exact AllReadyH.nil
    · have HE := Lib.hid (show k = z.length by omega)
      have hk0 : ¬ (k : Int) < (z.length : Int) := by omega
      go_wp2_with fail
      refine bodyPost_ret (v := .agg #[.slice va k vc, .int .i64 p, .int .i64 ((n : Int) + 1)]) (by simp [results, Try.results128, go_sem, e0, e1, e2]) rfl ?_
      have h1 := HOG.out
      have h2 := HRW.out
      rw [HE.out] at h1 h2 ⊢
      refine ⟨⟨va, vc, rfl, us, ?_⟩, ?_⟩
      · have ho : OwnG wr (w.heap.size + 3) p (.slice va z.length vc) us (besA z [v] z.length) := ⟨by rw [besA_len]; exact h1, h2⟩
        exact ((((ho.setCell2 (p := ⟨w.heap.size + 1, 0, none⟩) (by show w.heap.size + 1 < w.heap.size + 3; omega) _).setCell2 (p := ⟨w.heap.size + 1, 1, none⟩) (by show w.heap.size + 1 < w.heap.size + 3; omega) _).setCell2 (p := ⟨w.heap.size + 1, 2, none⟩) (by show w.heap.size + 1 < w.heap.size + 3; omega) _)).mono (by omega)
      · exact ((HBW.out.setCell (p := ⟨w.heap.size + 1, 0, none⟩) (Nat.le_add_right _ _) _).setCell (p := ⟨w.heap.size + 1, 1, none⟩) (Nat.le_add_right _ _) _).setCell (p := ⟨w.heap.size + 1, 2, none⟩) (Nat.le_add_right _ _) _
end Go.Proofs.Ytnebkhelobpkpaa
