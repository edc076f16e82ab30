/- zeros of the program. -/
import Derived.Test.YtnebkhelobpkpaaRep
import Derived.Deep.AppendLies
namespace Go.Proofs.Ytnebkhelobpkpaa
open Go.RowKit Go.Deep
set_option linter.unusedVariables false

/-- Rows of zeros. -/
def zs (n cn : Nat) : List (List Int) := List.replicate n (List.replicate cn 0)
theorem zs_snoc (n cn : Nat) : zs (n + 1) cn = zs n cn ++ [List.replicate cn 0] := by unfold zs; exact List.replicate_succ'
theorem zs_len (n cn : Nat) : (zs n cn).length = n := by simp [zs]
theorem nums_new (w : World) (p x : Int) : Nums (w.alloc (.cells #[.int .i64 p, .int .i64 x] 126)) (some ⟨w.heap.size, 0, none⟩) p [x] := by
  refine .inr ⟨w.heap.size, rfl, fun i hi => ?_⟩
  have : i = 0 := by simpa using hi
  subst this
  exact ⟨by simp, by simp [nth]⟩

theorem Boxes.other3 {W : World} {B : Nat} {t : TypeId} {vs : Array Value} (h : Boxes W B t vs) {b o : Nat} (hne : B ≠ b) {v : Value} : Boxes (W.setCell ⟨b, o, none⟩ v) B t vs :=
  (Below.heap_setCell W ⟨b, o, none⟩ v B hne).trans h

set_option maxRecDepth 100000 in
set_option maxHeartbeats 4000000 in
theorem zeros_any (p : Int) (n cn : Nat) (w : World) (hn : n ≤ 1000) (hcn : cn ≤ 1000) :
    Calls Try.prog 118 #[.int .i64 p, .int .i64 n, .int .i64 cn] w fun e w' => (∃ v us, e = .returned (.agg #[v, .int .i64 p, .int .i64 cn]) ∧ OwnG w' w.heap.size p v us (zs n cn)) ∧ Below w.heap.size w w' := by
  obtain ⟨i1, ji, jz0, jz1, jz2⟩ := info_parts Try.infoNums
  go_enter Try.func118, Try.ntmps118
  go_wp2_with fail
  have hb1 := ((Below.refl w.heap.size w).alloc (Nat.le_refl _) (.cells #[.slice none 0 0, .int .i64 0, .int .i64 0] 102)).alloc (by simp) (.cells #[.slice none 0 0, .int .i64 p, .int .i64 (cn : Int)] 102)
  have hx1 : Boxes ((w.alloc (.cells #[.slice none 0 0, .int .i64 0, .int .i64 0] 102)).alloc (.cells #[.slice none 0 0, .int .i64 p, .int .i64 (cn : Int)] 102)) w.heap.size 102 #[.slice none 0 0, .int .i64 0, .int .i64 0] := Boxes.step (World.alloc_heap_new w _) ((Below.refl _ _).alloc (Nat.le_refl _) (.cells #[.slice none 0 0, .int .i64 p, .int .i64 (cn : Int)] 102))
  have hx2 : Boxes ((w.alloc (.cells #[.slice none 0 0, .int .i64 0, .int .i64 0] 102)).alloc (.cells #[.slice none 0 0, .int .i64 p, .int .i64 (cn : Int)] 102)) (w.heap.size + 1) 102 #[.slice none 0 0, .int .i64 p, .int .i64 (cn : Int)] := by
    have : Boxes ((w.alloc (.cells #[.slice none 0 0, .int .i64 0, .int .i64 0] 102)).alloc (.cells #[.slice none 0 0, .int .i64 p, .int .i64 (cn : Int)] 102)) (w.alloc (.cells #[.slice none 0 0, .int .i64 0, .int .i64 0] 102)).heap.size 102 #[.slice none 0 0, .int .i64 p, .int .i64 (cn : Int)] := World.alloc_heap_new _ _
    simp only [World.size_alloc] at this
    exact this
  generalize (w.alloc (.cells #[.slice none 0 0, .int .i64 0, .int .i64 0] 102)).alloc (.cells #[.slice none 0 0, .int .i64 p, .int .i64 (cn : Int)] 102) = w3 at *
  have HB1 := Lib.hid hb1
  have HX1 := Lib.hid hx1
  have HX2 := Lib.hid hx2
  clear hb1 hx1 hx2
  go_loopw [12] (fun i wr => ∃ (k : Nat) (va : Option Addr) (vc : Nat) (us : List Value), k ≤ n ∧ i = .int .i64 k ∧ Boxes wr w.heap.size 102 #[.slice none 0 0, .int .i64 0, .int .i64 0] ∧ Boxes wr (w.heap.size + 1) 102 #[.slice va k vc, .int .i64 p, .int .i64 (cn : Int)] ∧ OwnG wr (w.heap.size + 2) p (.slice va k vc) us (zs k cn) ∧ Below w.heap.size w wr)
    (fun i _ => n - (intOf i).toNat)
  case atStart => exact ⟨0, none, 0, _, Nat.zero_le _, rfl, HX1.out, HX2.out, OwnG.nil _ _ _, HB1.out⟩
  case round =>
    obtain ⟨k, va, vc, us, hk, rfl, hx1, hx2, hog, hb⟩ := hrel
    have c0 := hx2.m0
    have c1 := hx2.m1
    have c2 := hx2.m2
    have f0 := hx2.frozen 0
    have hlt2 := hx2.lt
    have hlt1 := hx1.lt
    have e0 := hx1.m0
    have e1 := hx1.m1
    have e2 := hx1.m2
    have g0 := hx1.frozen 0
    have g1 := hx1.frozen 1
    have g2 := hx1.frozen 2
    clear HX1 HX2 HB1
    have HX1 := Lib.hid hx1
    have HX2 := Lib.hid hx2
    have HRW := Lib.hid hog.rows
    have HOG := Lib.hid (show wr.ownsRow (w.heap.size + 2) 173 1 (.slice va k vc) k us by have := hog.row; rw [zs_len] at this; exact this)
    have HBW := Lib.hid hb
    clear hx1 hx2 hog hb
    by_cases hlt : k < n
    · have hk0 : (k : Int) < (n : Int) := by omega
      go_wp2_with fail
      go_region_law (first | (go_simp; go_at_call 95; go_must (refine (number_any p 0 _).mono ?_; rintro e w8 ⟨rfl, hb8⟩; have HB8 := Lib.hid (show Below wr.heap.size wr w8 by first | exact hb8 | exact (drew_step wr).trans hb8); have hs8 : wr.heap.size ≤ w8.heap.size := HB8.out.size; have z0 := (HX2.out.step HB8.out).m0; have zf := (HX2.out.step HB8.out).frozen 0; have zl : w.heap.size + 1 < w8.heap.size := (HX2.out.step HB8.out).lt; have zl2 : w.heap.size + 1 < w8.heap.size + 1 := (by omega); have HN8 := Lib.hid (show Nums (w8.alloc (.cells #[.int .i64 p, .int .i64 0] 126)) (some ⟨w8.heap.size, 0, none⟩) p [0] from nums_new w8 p 0))) | (go_simp; go_at_call 135; refine (repeat_any p 0 w8.heap.size 1 cn _ (by first | exact HN8.out | exact HN8.out.step (drew_step _)) hcn).mono ?_; rintro e w9 ⟨v9, rfl, ho9, hb9⟩; have HB9 := Lib.hid (show Below wr.heap.size wr w9 by first | exact (HB8.out.alloc (by omega) (.cells #[.int .i64 p, .int .i64 0] 126)).trans (hb9.mono (by simp; omega)) | exact (HB8.out.alloc (by omega) (.cells #[.int .i64 p, .int .i64 0] 126)).drew.trans (hb9.mono (by simp; omega))); have HO9 := Lib.hid (show OwnN w9 wr.heap.size p v9 (List.replicate cn 0) from ho9.mono (by simp; omega)); have hs9 : wr.heap.size ≤ w9.heap.size := HB9.out.size; obtain ⟨ra, rc, hr9⟩ := rowForm ho9; rw [List.length_replicate] at hr9; subst hr9; clear ho9; have y0 := (HX2.out.step HB9.out).m0; have yf := (HX2.out.step HB9.out).frozen 0; have yl : w.heap.size + 1 < w9.heap.size := (HX2.out.step HB9.out).lt; have yl2 : w.heap.size + 1 < w9.heap.size + 1 := (by omega)) | (refine step_append_lies _ (by rfl) _ _ 99 (by rfl) (w.heap.size + 2) 173 i1 (.slice none 0 0) 1 24 Try.underlying99 ji jz0 jz1 jz2 (by rfl) (by decide) (.slice va k vc) k us (by simp [Act.eval]) (by first | exact World.ownsRow.alloc (row_step HOG.out HB9.out) _ | exact row_step (World.ownsRow.alloc (row_step HOG.out HB9.out) _) (drew_step _) | exact World.ownsRow.alloc (row_step (row_step HOG.out HB9.out) (drew_step _)) _) ⟨w9.heap.size, 0, none⟩ 1 1 [.slice ra cn rc] (by simp [Act.eval]) (by rfl) (by first | exact cell_one_new _ _ _ | (intro j u hj; exact cell_one_new w9 _ _ j u hj)) (by simp [Value.oneCell']) (by decide) (by unfold maxLen; omega) (by omega) (by simp; omega) _ rfl ?_; intro g cap w10 hown10 hgrow10 hat10 hlt10; have hx10 := Boxes.grown (Boxes.step (HX2.out.step HB9.out) (by first | exact (Below.refl _ _).alloc (Nat.le_refl _) _ | exact ((Below.refl _ _).alloc (Nat.le_refl _) _).drew | exact (Below.refl _ _).drew.alloc (Nat.le_refl _) _)) hgrow10 (row_ge HOG.out (Nat.lt_succ_self _)); have t0 := hx10.m0; have tf := hx10.frozen 0; have tl := hx10.lt))
      all_goals (
        have HX10 := Lib.hid hx10
        have H10 := Lib.hid hown10
        have HY10 := Lib.hid (show Boxes w10 w.heap.size 102 #[.slice none 0 0, .int .i64 0, .int .i64 0] from Boxes.grown (Boxes.step (HX1.out.step HB9.out) (by first | exact (Below.refl _ _).alloc (Nat.le_refl _) _ | exact ((Below.refl _ _).alloc (Nat.le_refl _) _).drew | exact (Below.refl _ _).drew.alloc (Nat.le_refl _) _)) hgrow10 (row_ge HOG.out (by omega)))
        have HR10 := Lib.hid (show RowsN w10 (w.heap.size + 2) p (us ++ [.slice ra cn rc]) (zs (k + 1) cn) by
          rw [zs_snoc]
          refine (HRW.out.snoc HB9.out HO9.out (by omega)).map fun u zs ho => ?_
          first
          | exact row_other (World.ownsRow.alloc ho _) (World.ownsRow.alloc (row_step HOG.out HB9.out) _) hgrow10 (by decide)
          | exact row_other (row_step (World.ownsRow.alloc ho _) (drew_step _)) (row_step (World.ownsRow.alloc (row_step HOG.out HB9.out) _) (drew_step _)) hgrow10 (by decide)
          | exact row_other (World.ownsRow.alloc (row_step ho (drew_step _)) _) (World.ownsRow.alloc (row_step (row_step HOG.out HB9.out) (drew_step _)) _) hgrow10 (by decide))
        have HB10 := Lib.hid (show Below w.heap.size w w10 from Below.grown (by first | exact (HBW.out.trans (HB9.out.mono (by omega))).alloc (by omega) _ | exact ((HBW.out.trans (HB9.out.mono (by omega))).alloc (by omega) _).drew | exact (HBW.out.trans (HB9.out.mono (by omega))).drew.alloc (by simp; omega) _) hgrow10 (by simp only [World.size_alloc]; omega) (fun q hq => by have := row_lt HOG.out hq; omega))
        clear hx10 hown10 hgrow10 hat10 hlt10 c0 c1 c2 f0 e0 e1 e2 g0 g1 g2
        go_wp2_with fail
        go_roundw
        case rel => exact ⟨k + 1, some ⟨g, 0, none⟩, cap, us ++ [.slice ra cn rc], by omega, by go_num, HY10.out.other3 (by omega), HX10.out.set3 _, ⟨by rw [zs_len]; exact row_set H10.out (by omega) _, HR10.out.map fun u zs ho => row_set ho (by omega) _⟩, HB10.out.setCell (p := ⟨w.heap.size + 1, 0, none⟩) (Nat.le_add_right _ _) _⟩
        case measure => simp [intOf]; omega)
    · have HE := Lib.hid (show k = n by omega)
      go_wp2_with fail
      refine bodyPost_ret (v := .agg #[.slice va k vc, .int .i64 p, .int .i64 (cn : Int)]) (by simp [results, Try.results118, go_sem, e0, e1, e2]) rfl ⟨⟨_, us, rfl, ?_⟩, ?_⟩
      · have := HOG.out
        rw [HE.out] at this
        refine OwnG.mono (base := w.heap.size + 2) ?_ (Nat.le_add_right _ _)
        have ho : OwnG wr (w.heap.size + 2) p (.slice va k vc) us (zs n cn) := ⟨by rw [zs_len]; rw [HE.out]; exact this, by rw [← HE.out]; exact HRW.out⟩
        exact ((ho.setCell2 (p := ⟨w.heap.size, 0, none⟩) (by show w.heap.size < w.heap.size + 2; omega) _).setCell2 (p := ⟨w.heap.size, 1, none⟩) (by show w.heap.size < w.heap.size + 2; omega) _).setCell2 (p := ⟨w.heap.size, 2, none⟩) (by show w.heap.size < w.heap.size + 2; omega) _
      · exact ((HBW.out.setCell (p := ⟨w.heap.size, 0, none⟩) (Nat.le_refl _) _).setCell (p := ⟨w.heap.size, 1, none⟩) (Nat.le_refl _) _).setCell (p := ⟨w.heap.size, 2, none⟩) (Nat.le_refl _) _
end Go.Proofs.Ytnebkhelobpkpaa
