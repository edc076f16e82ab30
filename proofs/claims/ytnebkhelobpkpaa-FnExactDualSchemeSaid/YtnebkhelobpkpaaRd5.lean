/- reduced of the program. -/
import Derived.Test.YtnebkhelobpkpaaRd4
import Derived.Deep.AppendLies
import Derived.Deep.RegionLaw
import Derived.Deep.DrawnRows
namespace Go.Proofs.Ytnebkhelobpkpaa
open Go.RowKit Go.Deep Go.Joins Go.ChangeShapes Go.WideShapes Go.ChangeAt
set_option linter.unusedVariables false

theorem Boxes.all6 {W : World} {B : Nat} {t : TypeId} {u0 u1 u2 u3 u4 u5 : Value} (h : Boxes W B t #[u0, u1, u2, u3, u4, u5]) (v0 v1 v2 v3 v4 v5 : Value) :
    Boxes ((((((W.setCell ⟨B, 0, none⟩ v0).setCell ⟨B, 1, none⟩ v1).setCell ⟨B, 2, none⟩ v2).setCell ⟨B, 3, none⟩ v3).setCell ⟨B, 4, none⟩ v4).setCell ⟨B, 5, none⟩ v5) B t #[v0, v1, v2, v3, v4, v5] := by
  unfold Boxes at h ⊢
  simp [World.setCell, Array.getElem?_modify, h]
theorem Boxes.zero6 {W : World} {B : Nat} {t : TypeId} {u0 u1 u2 u3 u4 u5 : Value} (h : Boxes W B t #[u0, u1, u2, u3, u4, u5]) (v0 : Value) : Boxes (W.setCell ⟨B, 0, none⟩ v0) B t #[v0, u1, u2, u3, u4, u5] := by
  unfold Boxes at h ⊢
  simp [World.setCell, Array.getElem?_modify, h]
theorem Boxes.c6 {W : World} {B : Nat} {t : TypeId} {u0 u1 u2 u3 u4 u5 : Value} (h : Boxes W B t #[u0, u1, u2, u3, u4, u5]) : W.cell? ⟨B, 0, none⟩ = some u0 ∧ W.cell? ⟨B, 1, none⟩ = some u1 ∧ W.cell? ⟨B, 2, none⟩ = some u2 ∧ W.cell? ⟨B, 3, none⟩ = some u3 ∧ W.cell? ⟨B, 4, none⟩ = some u4 ∧ W.cell? ⟨B, 5, none⟩ = some u5 :=
  ⟨by rw [h.cell]; rfl, by rw [h.cell]; rfl, by rw [h.cell]; rfl, by rw [h.cell]; rfl, by rw [h.cell]; rfl, by rw [h.cell]; rfl⟩
theorem Below.six {B q : Nat} {w W : World} (h : Below B w W) (hq : B ≤ q) (v0 v1 v2 v3 v4 v5 : Value) : Below B w ((((((W.setCell ⟨q, 0, none⟩ v0).setCell ⟨q, 1, none⟩ v1).setCell ⟨q, 2, none⟩ v2).setCell ⟨q, 3, none⟩ v3).setCell ⟨q, 4, none⟩ v4).setCell ⟨q, 5, none⟩ v5) :=
  (((((h.setCell (p := ⟨q, 0, none⟩) hq _).setCell (p := ⟨q, 1, none⟩) hq _).setCell (p := ⟨q, 2, none⟩) hq _).setCell (p := ⟨q, 3, none⟩) hq _).setCell (p := ⟨q, 4, none⟩) hq _).setCell (p := ⟨q, 5, none⟩) hq _

theorem Try.infoRed : (Try.prog.info? 128).map (·.size) = some 6 := by kernel_rfl
theorem KeepT.setRow {t t0 : TypeId} {W : World} {q : Nat} {vs0 : Array Value} (h : Boxes W q t0 vs0) (ht : t ≠ t0) (cs : Array Value) : KeepT t W (W.setRow q cs) := fun b vs hb => (setRow_other W q b cs (fun e => by
  subst e
  have h1 : W.heap[b]? = _ := h
  have h2 : W.heap[b]? = _ := hb
  rw [h1] at h2
  cases h2
  exact ht rfl)).trans hb
theorem KeepT.six {t t0 : TypeId} {W : World} {q : Nat} {vs0 : Array Value} (h : Boxes W q t0 vs0) (ht : t ≠ t0) (v0 v1 v2 v3 v4 v5 : Value) : KeepT t W ((((((W.setCell ⟨q, 0, none⟩ v0).setCell ⟨q, 1, none⟩ v1).setCell ⟨q, 2, none⟩ v2).setCell ⟨q, 3, none⟩ v3).setCell ⟨q, 4, none⟩ v4).setCell ⟨q, 5, none⟩ v5) := fun b vs hb => by
  have hne : b ≠ q := fun e => by
    subst e
    have h1 : W.heap[b]? = _ := h
    have h2 : W.heap[b]? = _ := hb
    rw [h1] at h2
    cases h2
    exact ht rfl
  exact (((((hb.other3 hne).other3 hne).other3 hne).other3 hne).other3 hne).other3 hne
theorem step_store_row {P : Program} {ops : Array Oper} {o : Oper} {a : Act} {w : World} {K : Act → World → Prop} {Q : Exit → Act → World → Prop} {E : Prop} (hgd : o.guard = none) (ty : TypeId) (x y : Operand) (ho : o.op = .store ty x y)
    (g : Nat) (cells : Array Value) (hx : a.eval x = .pointer (some ⟨g, 0, none⟩)) (hy : a.eval y = .agg cells)
    (t : TypeId) (old : Array Value) (hg : w.heap[g]? = some (.cells old t (0, 0))) (hi : (P.info? ty).map (·.size) = some cells.size)
    (hold : old.size = cells.size) (h1 : cells.all (·.oneCell') = true)
    (h : K (a.put o.dst undef) (w.setRow g cells)) : if Region.wanted o (yielded ops a.tmps) = true then Oper.wp P o a w K Q else E := by
  have hw : Region.wanted o (yielded ops a.tmps) = true := by simp [Region.wanted, hgd]
  rw [if_pos hw]
  exact wp_store_row ty x y ho g cells hx hy t old hg hi hold h1 h

set_option maxRecDepth 100000 in
set_option maxHeartbeats 8000000 in
theorem reduced_any (p : Int) (cn : Nat) (a : Option Addr) (ca : Nat) (z : List (List Int)) (w : World) (hg : GoodM p cn z) (hr : GridR w a p z) :
    Calls Try.prog 86 #[.agg #[.slice a z.length ca, .int .i64 p, .int .i64 ((cn : Nat) : Int)]] w fun e w' => (∃ va vc us fa fc f F x, e = .returned (.agg #[.slice va z.length vc, .int .i64 p, .int .i64 ((cn : Nat) : Int), .slice fa F.length fc, .int .i64 p, .int .i64 x]) ∧ Steps p cn z.length (fn z) cn f F ∧ OwnG w' w.heap.size p (.slice va z.length vc) us (tab z.length cn f) ∧ w'.ownsRow w.heap.size 3 1 (.slice fa F.length fc) F.length (cols F) ∧ Elem p x) ∧ Below w.heap.size w w' := by
  obtain ⟨i1, ji, jz0, jz1, jz2⟩ := info_parts Try.infoNums
  have HG := Lib.hid hg
  have HR := Lib.hid hr
  have hp0 := hg.prm.1
  have hp1 := hg.prm.2.1
  have hz1 := hg.hm
  have hcn := hg.hn
  clear hg hr
  go_enter Try.func86, Try.ntmps86
  go_wp2_with fail
  have hb2 := ((Below.refl w.heap.size w).alloc (Nat.le_refl _) (.cells #[.slice a z.length ca, .int .i64 p, .int .i64 ((cn : Nat) : Int)] 102)).alloc (by simp) (.cells #[.slice none 0 0, .int .i64 0, .int .i64 0, .slice none 0 0, .int .i64 0, .int .i64 0] 128)
  have hxg : Boxes ((w.alloc (.cells #[.slice a z.length ca, .int .i64 p, .int .i64 ((cn : Nat) : Int)] 102)).alloc (.cells #[.slice none 0 0, .int .i64 0, .int .i64 0, .slice none 0 0, .int .i64 0, .int .i64 0] 128)) w.heap.size 102 #[.slice a z.length ca, .int .i64 p, .int .i64 ((cn : Nat) : Int)] := Boxes.step (World.alloc_heap_new w _) (al_b _ _)
  have hxz : Boxes ((w.alloc (.cells #[.slice a z.length ca, .int .i64 p, .int .i64 ((cn : Nat) : Int)] 102)).alloc (.cells #[.slice none 0 0, .int .i64 0, .int .i64 0, .slice none 0 0, .int .i64 0, .int .i64 0] 128)) (w.heap.size + 1) 128 #[.slice none 0 0, .int .i64 0, .int .i64 0, .slice none 0 0, .int .i64 0, .int .i64 0] := by
    have : Boxes ((w.alloc (.cells #[.slice a z.length ca, .int .i64 p, .int .i64 ((cn : Nat) : Int)] 102)).alloc (.cells #[.slice none 0 0, .int .i64 0, .int .i64 0, .slice none 0 0, .int .i64 0, .int .i64 0] 128)) (w.alloc (.cells #[.slice a z.length ca, .int .i64 p, .int .i64 ((cn : Nat) : Int)] 102)).heap.size 128 #[.slice none 0 0, .int .i64 0, .int .i64 0, .slice none 0 0, .int .i64 0, .int .i64 0] := World.alloc_heap_new _ _
    simp only [World.size_alloc] at this
    exact this
  have hs2 : ((w.alloc (.cells #[.slice a z.length ca, .int .i64 p, .int .i64 ((cn : Nat) : Int)] 102)).alloc (.cells #[.slice none 0 0, .int .i64 0, .int .i64 0, .slice none 0 0, .int .i64 0, .int .i64 0] 128)).heap.size = w.heap.size + 2 := by simp
  generalize (w.alloc (.cells #[.slice a z.length ca, .int .i64 p, .int .i64 ((cn : Nat) : Int)] 102)).alloc (.cells #[.slice none 0 0, .int .i64 0, .int .i64 0, .slice none 0 0, .int .i64 0, .int .i64 0] 128) = w2 at *
  have HB2 := Lib.hid hb2
  have HXG := Lib.hid hxg
  have HXZ := Lib.hid hxz
  have HS2 := Lib.hid hs2
  clear hb2 hxg hxz hs2
  go_cut [3] from 7 to 11 (fun s3 wr => ∃ q : Nat, s3 = .pointer (some ⟨q, 0, none⟩) ∧ Boxes wr q 128 #[.slice a z.length ca, .int .i64 p, .int .i64 ((cn : Nat) : Int), .slice none 0 0, .int .i64 p, .int .i64 1] ∧ w2.heap.size ≤ q ∧ Below w2.heap.size w2 wr)
  case first =>
    have g0 := HXG.out.m0
    have g1 := HXG.out.m1
    have g2 := HXG.out.m2
    have gl := HXG.out.lt
    go_region_law (go_simp; go_at_call 95; refine (number_any p 1 _).mono ?_; rintro e w8 ⟨rfl, hb8⟩; (first
      | (have nb : Boxes w8 w2.heap.size 128 #[.slice none 0 0, .int .i64 0, .int .i64 0, .slice none 0 0, .int .i64 0, .int .i64 0] := (by first | exact Boxes.step (World.alloc_heap_new w2 _) hb8 | exact Boxes.step (Boxes.step (World.alloc_heap_new w2 _) (drew_step _)) hb8 | exact Boxes.step (World.alloc_heap_new w2.drew _) hb8); have KB := Lib.hid (show Below w2.heap.size w2 w8 from (by first | exact (al_b w2 _).trans (hb8.mono (by simp)) | exact ((al_b w2 _).drew).trans (hb8.mono (by simp)) | exact (drew_step w2).trans ((al_b w2.drew _).trans (hb8.mono (by simp))))); obtain ⟨n0, n1, n2, n3, n4, n5⟩ := nb.c6; have t0 := nb.frozen 0; have t1 := nb.frozen 1; have t2 := nb.frozen 2; have t3 := nb.frozen 3; have t4 := nb.frozen 4; have t5 := nb.frozen 5; have tl := nb.lt; have NB := Lib.hid nb; clear nb; have y0 := (HXG.out.step KB.out).m0; have y1 := (HXG.out.step KB.out).m1; have y2 := (HXG.out.step KB.out).m2; have yl := (HXG.out.step KB.out).lt)
      | (have KB := Lib.hid (show Below w2.heap.size w2 w8 by first | exact hb8 | exact (drew_step w2).trans hb8); have y0 := (HXG.out.step KB.out).m0; have y1 := (HXG.out.step KB.out).m1; have y2 := (HXG.out.step KB.out).m2; have yl := (HXG.out.step KB.out).lt)))
    all_goals (
      go_wp2_with fail
      go_meet
      first
        | (have hn := NB.out.all6 (.slice a z.length ca) (.int .i64 p) (.int .i64 ((cn : Nat) : Int)) (.slice none 0 0) (.int .i64 p) (.int .i64 1)
           have hbb := Below.six KB.out (Nat.le_refl _) (.slice a z.length ca) (.int .i64 p) (.int .i64 ((cn : Nat) : Int)) (.slice none 0 0) (.int .i64 p) (.int .i64 1)
           clear n0 n1 n2 n3 n4 n5 t0 t1 t2 t3 t4 t5 tl
           generalize ((((((w8.setCell ⟨w2.heap.size, 0, none⟩ (.slice a z.length ca)).setCell ⟨w2.heap.size, 1, none⟩ (.int .i64 p)).setCell ⟨w2.heap.size, 2, none⟩ (.int .i64 ((cn : Nat) : Int))).setCell ⟨w2.heap.size, 3, none⟩ (.slice none 0 0)).setCell ⟨w2.heap.size, 4, none⟩ (.int .i64 p)).setCell ⟨w2.heap.size, 5, none⟩ (.int .i64 1)) = wf at hn hbb ⊢
           exact ⟨_, rfl, hn, Nat.le_refl _, hbb⟩)
        | (have hn : Boxes (w8.alloc (.cells #[.slice a z.length ca, .int .i64 p, .int .i64 ((cn : Nat) : Int), .slice none 0 0, .int .i64 p, .int .i64 1] 128)) w8.heap.size 128 #[.slice a z.length ca, .int .i64 p, .int .i64 ((cn : Nat) : Int), .slice none 0 0, .int .i64 p, .int .i64 1] := World.alloc_heap_new w8 _
           have hbb := KB.out.trans ((al_b w8 (.cells #[.slice a z.length ca, .int .i64 p, .int .i64 ((cn : Nat) : Int), .slice none 0 0, .int .i64 p, .int .i64 1] 128)).mono KB.out.size)
           generalize w8.alloc (.cells #[.slice a z.length ca, .int .i64 p, .int .i64 ((cn : Nat) : Int), .slice none 0 0, .int .i64 p, .int .i64 1] 128) = wf at hn hbb ⊢
           exact ⟨_, rfl, hn, KB.out.size, hbb⟩))
  case rest =>
  obtain ⟨q, rfl, hbx, hq, hb⟩ := hcut
  obtain ⟨w3, hw3⟩ : ∃ W : World, W = wc := ⟨_, rfl⟩
  subst hw3
  have HQ0 := Lib.hid hbx
  have HB3 := Lib.hid hb
  have q0 := hbx.c6.1
  have qf := hbx.frozen 0
  have ql := hbx.lt
  clear hbx hb
  go_upto_region 2 with fail
  go_cut [] from 12 to 13 (fun wr => wr = w3.setCell ⟨q, 0, none⟩ (.slice none 0 0))
  case first =>
    go_wp2_with fail
    go_meet
    rfl
  case rest =>
  subst hcut
  have HQ := Lib.hid (HQ0.out.zero6 (.slice none 0 0))
  have HB4 := Lib.hid (HB3.out.setCell (p := ⟨q, 0, none⟩) hq (.slice none 0 0))
  clear HQ0 HB3 q0 qf ql
  generalize w3.setCell ⟨q, 0, none⟩ (.slice none 0 0) = w4 at *
  have g0 := (HXG.out.step HB4.out).m0
  have gl := (HXG.out.step HB4.out).lt
  go_wp2_with fail
  rw [HS2.out] at hq HB4
  go_loopw [5, 17] (fun s5 i wr => ∃ (k : Nat) (va : Option Addr) (vc : Nat) (us : List Value), k ≤ z.length ∧ i = .int .i64 k ∧ Boxes wr q 128 #[.slice va k vc, .int .i64 p, .int .i64 ((cn : Nat) : Int), .slice none 0 0, .int .i64 p, .int .i64 1] ∧ OwnG wr (w.heap.size + 2) p (.slice va k vc) us (z.take k) ∧ Below (w.heap.size + 2) w2 wr)
    (fun _ i _ => z.length - (intOf i).toNat)
  case atStart => exact ⟨0, none, 0, [], Nat.zero_le _, rfl, HQ.out, OwnG.nil _ _ _, HB4.out⟩
  case round =>
    obtain ⟨k, va, vc, us, hk, rfl, hx, hog, hb⟩ := hrel
    have HX := Lib.hid hx
    have HOG := Lib.hid hog
    have HBR := Lib.hid hb
    have hqr : q < wr.heap.size := hx.lt
    have hsr : w.heap.size + 2 ≤ wr.heap.size := by omega
    clear hx hog hb HQ HB4 g0 gl
    by_cases hlt : k < z.length
    · rcases HR.out.below (HB2.out.trans (HBR.out.mono (by omega))) (Nat.le_refl _) with h | ⟨b, rfl, hc⟩
      · rw [h] at hlt; exact absurd hlt (Nat.not_lt_zero _)
      obtain ⟨ai, ci, hcell, hnums⟩ := hc k hlt
      have hlen := (HG.out.rows k hlt).1
      rw [hlen] at hcell
      have hi0 : (k : Int) < (z.length : Int) := by omega
      have HNU := Lib.hid hnums
      have HLE := Lib.hid hlen
      have HT := Lib.hid (take_snoc z hlt)
      have HLK := Lib.hid (show (z.take k).length = k by rw [List.length_take]; omega)
      have x0 := HX.out.c6.1
      have xf := HX.out.frozen 0
      clear hc hnums hlen
      go_wp2_with fail
      go_region_law (first
        | (go_simp; go_at_call 132; refine (cloneE_any p ai (nthL z k) cn ci _ (by first | exact HNU.out | exact HNU.out.step (drew_step _)) HLE.out (by omega)).mono ?_; rintro e w5 ⟨⟨v5, rfl, hv5⟩, hb5⟩; obtain ⟨v5a, v5c, rfl⟩ := rowForm hv5; have HB5 := Lib.hid (show Below wr.heap.size wr w5 by first | exact hb5 | exact (drew_step wr).trans hb5); have HX5 := Lib.hid (HX.out.step HB5.out); have HO5 := Lib.hid (HOG.out.step HB5.out); have HV5 := Lib.hid (show RowsN w5 (w.heap.size + 2) p (us ++ [.slice v5a (nthL z k).length v5c]) (z.take k ++ [nthL z k]) by first | exact HOG.out.rows.snoc hb5 hv5 hsr | exact (HOG.out.step (drew_step _)).rows.snoc hb5 hv5 hsr); have z0 := HX5.out.c6.1; have zf := HX5.out.frozen 0; have zl := HX5.out.lt)
        | (refine step_append_lies _ (by rfl) _ _ 99 (by rfl) (w.heap.size + 2) 173 i1 (.slice none 0 0) 1 24 Try.underlying99 ji jz0 jz1 jz2 (by rfl) (by decide) (.slice va k vc) k us (by rfl) (by have h := World.ownsRow.alloc HO5.out.row (.cells #[.slice v5a (nthL z k).length v5c] 173); rw [HLK.out] at h; exact h) ⟨w5.heap.size, 0, none⟩ 1 1 [.slice v5a (nthL z k).length v5c] (by rfl) (by rfl) (by first | exact cell_one_new _ _ _ | (intro j u hj; exact cell_one_new w5 _ _ j u hj)) (by simp [Value.oneCell']) (by decide) (by unfold maxLen; omega) (by omega) (by have := HB5.out.size; simp; omega) _ rfl ?_; intro g cap w8 hown8 hgrow8 hat8 hlt8; have hx8 := KeepT.grown (t := 128) (World.ownsRow.alloc HO5.out.row _) hgrow8 (by decide) _ _ (HX5.out.step (al_b _ _)); have y0 := hx8.c6.1; have yf := hx8.frozen 0; have yl := hx8.lt))
      all_goals (
        have HX8 := Lib.hid hx8
        have H8 := Lib.hid hown8
        have HG8 := Lib.hid hgrow8
        clear hx8 hown8 hgrow8 hat8 hlt8 z0 zf zl x0 xf hcell
        go_wp2_with fail
        go_roundw
        case rel =>
          have hke : KeepT 126 w5 (w8.setCell ⟨q, 0, none⟩ (.slice (some ⟨g, 0, none⟩) (k + 1) cap)) := ((KeepT.of_below (al_b w5 _)).trans (KeepT.grown (World.ownsRow.alloc HO5.out.row _) HG8.out (by decide))).trans (KeepT.set HX8.out (by decide) _ _)
          refine ⟨k + 1, some ⟨g, 0, none⟩, cap, us ++ [.slice v5a (nthL z k).length v5c], by omega, by go_num, HX8.out.zero6 _, ⟨?_, ?_⟩, ?_⟩
          · rw [HT.out, List.length_append, HLK.out]
            exact row_keepT H8.out (KeepT.set HX8.out (by decide) _ _)
          · rw [HT.out]
            exact HV5.out.map fun u zs ho => row_keepT ho hke
          · exact (((HBR.out.trans (HB5.out.mono hsr)).trans ((al_b w5 _).mono (by have := HB5.out.size; omega))).grown HG8.out (by have := HB5.out.size; simp only [World.size_alloc]; omega) (fun q hq => (row_lt HO5.out.row hq).1)).setCell (p := ⟨q, 0, none⟩) hq _
        case measure => simp [intOf]; omega)
    · have hE : k = z.length := by omega
      subst hE
      have RA := Lib.hid (show RedAt wr q (w.heap.size + 2) p z.length cn va vc us (fn z) none 0 [] 1 from ⟨HX.out, by have h := HOG.out; rw [List.take_length] at h; rw [← HG.out.tab]; exact h, World.ownsRow_nil _ _ _ _⟩)
      have g2 := (HBR.out.cell (p := ⟨w.heap.size, 2, none⟩) (by simp)).trans HXG.out.m2
      have gl : w.heap.size < wr.heap.size := by omega
      clear HX HOG hk hlt
      obtain ⟨wo, rfl⟩ : ∃ wo : World, wo = wr := ⟨_, rfl⟩
      go_wp2_with fail
      go_loopw [6, 33] (fun s6 i2 wr => ∃ (j : Nat) (fj : Nat → Nat → Int) (fa : Option Addr) (fc : Nat) (F : List Nat) (x : Int), j ≤ cn ∧ i2 = .int .i64 j ∧ RedAt wr q (w.heap.size + 2) p z.length cn va vc us fj fa fc F x ∧ Elem p x ∧ Steps p cn z.length (fn z) j fj F ∧ Below (w.heap.size + 2) w2 wr)
        (fun _ i2 _ => cn - (intOf i2).toNat)
      case atStart => exact ⟨0, fn z, none, 0, [], 1, Nat.zero_le _, rfl, RA.out, ⟨by omega, by omega⟩, Steps.start, HBR.out⟩
      case round =>
        obtain ⟨j, fj, fa, fc, F, x, hj, rfl, hr, hx, hs, hb⟩ := hrel
        have RE := Lib.hid hr
        have HXE := Lib.hid hx
        have HSE := Lib.hid hs
        have HBE := Lib.hid hb
        have hqi : q < wr.heap.size := hr.box.lt
        clear hr hx hs hb RA HBR g2
        by_cases hltj : j < cn
        · have hj0 : (j : Int) < (cn : Int) := by omega
          go_wp2_with fail
          refine (takeColumn_any q (w.heap.size + 2) z.length cn j vc fc p x va fa us fj F wr RE.out HG.out.prm hltj hz1 hcn (HSE.out.elems HG.out.elem) HXE.out HSE.out.len hq (by omega)).mono ?_
          rintro e w9 ⟨rfl, hto⟩
          obtain ⟨f', fa', fc', F', x', hr', hx', hcase⟩ := hto.red
          have HB9 := Lib.hid (HBE.out.trans hto.below)
          have HR9 := Lib.hid hr'
          have HX9 := Lib.hid hx'
          have HS9 := Lib.hid (show Steps p cn z.length (fn z) (j + 1) f' F' by
            rcases hcase with ⟨rfl, rfl, h0⟩ | ⟨rfl, h1, h2, h3⟩
            · exact .skip _ _ _ HSE.out hltj h0
            · exact .piv _ _ _ _ HSE.out hltj h1 h2 h3)
          clear hto hr' hx' hcase
          go_wp2_with fail
          go_roundw
          case rel => exact ⟨j + 1, f', fa', fc', F', x', by omega, by go_num, HR9.out, HX9.out, HS9.out, HB9.out⟩
          case measure => simp [intOf]; omega
        · have hE : j = cn := by omega
          subst hE
          have hxz : Boxes wr (w.heap.size + 1) 128 #[.slice none 0 0, .int .i64 0, .int .i64 0, .slice none 0 0, .int .i64 0, .int .i64 0] := (HBE.out.block (w.heap.size + 1) (by omega)).trans HXZ.out
          obtain ⟨e0, e1, e2, e3, e4, e5⟩ := RE.out.box.c6
          have HXZ2 := Lib.hid hxz
          obtain ⟨m0, m1, m2, m3, m4, m5⟩ := hxz.c6
          have t0 := hxz.frozen 0
          have t1 := hxz.frozen 1
          have t2 := hxz.frozen 2
          have t3 := hxz.frozen 3
          have t4 := hxz.frozen 4
          have t5 := hxz.frozen 5
          have tl := hxz.lt
          clear hxz
          go_wp2_with fail
          clear e0 e1 e2 e3 e4 e5 m0 m1 m2 m3 m4 m5 t0 t1 t2 t3 t4 t5 tl
          have hn := HXZ2.out.all6 (.slice va z.length vc) (.int .i64 p) (.int .i64 j) (.slice fa F.length fc) (.int .i64 p) (.int .i64 x)
          have HK := Lib.hid (fun t (ht : t ≠ 128) => KeepT.six HXZ2.out ht (.slice va z.length vc) (.int .i64 p) (.int .i64 j) (.slice fa F.length fc) (.int .i64 p) (.int .i64 x))
          have HBF := Lib.hid (Below.six (q := w.heap.size + 1) (HB2.out.trans (HBE.out.mono (by omega))) (by omega) (.slice va z.length vc) (.int .i64 p) (.int .i64 j) (.slice fa F.length fc) (.int .i64 p) (.int .i64 x))
          generalize ((((((wr.setCell ⟨w.heap.size + 1, 0, none⟩ (.slice va z.length vc)).setCell ⟨w.heap.size + 1, 1, none⟩ (.int .i64 p)).setCell ⟨w.heap.size + 1, 2, none⟩ (.int .i64 j)).setCell ⟨w.heap.size + 1, 3, none⟩ (.slice fa F.length fc)).setCell ⟨w.heap.size + 1, 4, none⟩ (.int .i64 p)).setCell ⟨w.heap.size + 1, 5, none⟩ (.int .i64 x)) = wf at *
          obtain ⟨n0, n1, n2, n3, n4, n5⟩ := hn.c6
          refine bodyPost_ret (v := .agg #[.slice va z.length vc, .int .i64 p, .int .i64 j, .slice fa F.length fc, .int .i64 p, .int .i64 x]) (by simp [results, Try.results86, go_sem, n0, n1, n2, n3, n4, n5]) rfl ⟨⟨va, vc, us, fa, fc, fj, F, x, rfl, HSE.out, ?_, ?_, HXE.out⟩, ?_⟩
          · exact (RE.out.grid.keepT (HK.out _ (by decide)) (HK.out _ (by decide))).mono (by omega)
          · exact ownsRow_mono (row_keepT RE.out.firsts (HK.out _ (by decide))) (by omega)
          · exact HBF.out
end Go.Proofs.Ytnebkhelobpkpaa
