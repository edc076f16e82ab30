/- The product of grids of the program. -/
import Derived.Test.YtnebkhelobpkpaaInc
import Derived.Test.YtnebkhelobpkpaaGm
namespace Go.Proofs.Ytnebkhelobpkpaa
open Go.RowKit Go.Deep
set_option linter.unusedVariables false

/-- The sum of the first products. -/
def dotTo (a b : Nat → Int) : Nat → Int
  | 0 => 0
  | k + 1 => dotTo a b k + a k * b k
def dotAt (z y : List (List Int)) (r c k : Nat) : Int := dotTo (nth (nthL z r)) (fun q => nth (nthL y q) c) k
/-- What is there when row i has been multiplied by k rows. -/
def prAt (z y : List (List Int)) (p : Int) (cn i k : Nat) : Nat → Nat → Int := fun r c => if r < i then dotAt z y r c cn % p else if r = i then dotAt z y r c k % p else 0
theorem prAt_elem (z y : List (List Int)) (p : Int) (cn i k : Nat) (hp : 2 ≤ p) (r c : Nat) : Elem p (prAt z y p cn i k r c) := by
  unfold prAt
  split
  · exact mod_elem hp _
  · split
    · exact mod_elem hp _
    · exact ⟨Int.le_refl _, by omega⟩
theorem prAt_step (z y : List (List Int)) (p : Int) (cn i k n : Nat) : tab z.length n (chTo (prAt z y p cn i k) i n (fun j x => (x + nth (nthL y k) j * nth (nthL z i) k % p) % p)) = tab z.length n (prAt z y p cn i (k + 1)) := by
  refine tab_ext fun r c hr hc => ?_
  unfold chTo
  by_cases e : r = i
  · subst e
    rw [if_pos ⟨rfl, hc⟩]
    simp only [prAt, Nat.lt_irrefl, if_false, if_true, dotAt, dotTo]
    rw [← Int.add_emod, Int.mul_comm]
  · rw [if_neg (fun q => e q.1)]
    simp only [prAt, if_neg e]
theorem prAt_start (z y : List (List Int)) (p : Int) (cn n : Nat) : zs z.length n = tab z.length n (prAt z y p cn 0 0) := by
  rw [zs_tab]
  refine tab_ext fun r c hr hc => ?_
  unfold prAt dotAt dotTo
  by_cases e : r = 0
  · subst e; simp
  · rw [if_neg (by omega), if_neg e]
theorem prAt_next (z y : List (List Int)) (p : Int) (cn i n : Nat) : tab z.length n (prAt z y p cn i cn) = tab z.length n (prAt z y p cn (i + 1) 0) := by
  refine tab_ext fun r c hr hc => ?_
  unfold prAt
  by_cases e : r = i
  · subst e
    rw [if_neg (Nat.lt_irrefl _), if_pos rfl, if_pos (Nat.lt_succ_self _)]
  · by_cases e2 : r = i + 1
    · subst e2
      rw [if_neg (by omega), if_neg e, if_neg (by omega), if_pos rfl]
      simp [dotAt, dotTo]
    · by_cases e3 : r < i
      · rw [if_pos e3, if_pos (by omega)]
      · rw [if_neg e3, if_neg e, if_neg (by omega), if_neg e2]
/-- The product. -/
def prod (z y : List (List Int)) (p : Int) (cn n : Nat) : List (List Int) := tab z.length n (fun r c => dotAt z y r c cn % p)
theorem prAt_end (z y : List (List Int)) (p : Int) (cn n : Nat) : tab z.length n (prAt z y p cn z.length 0) = prod z y p cn n := by
  refine tab_ext fun r c hr hc => ?_
  unfold prAt
  rw [if_pos hr]
theorem nums_block {w : World} {a : Option Addr} {p : Int} {zs : List Int} (h : Nums w a p zs) (hl : 0 < zs.length) : ∀ x, a = some x → x.block < w.heap.size := by
  intro x hx
  rcases h with h | ⟨b, hb, hc⟩
  · rw [h] at hl; exact absurd hl (Nat.lt_irrefl _)
  · rw [hb] at hx; cases hx
    exact World.block_lt_of_cell? _ _ (hc 0 hl).1
theorem OwnG.rlt {W : World} {base : Nat} {p : Int} {v : Value} {us : List Value} {zss : List (List Int)} (h : OwnG W base p v us zss) {r g n cap : Nat} (hu : us[r]? = some (.slice (some ⟨g, 0, none⟩) n cap)) : base ≤ g ∧ g < W.heap.size := by
  have hr : r < us.length := (List.getElem?_eq_some_iff.1 hu).1
  have hz : r < zss.length := by rw [← h.rows.len]; exact hr
  exact row_lt (h.rows.own r _ zss[r] hu (by simp [hz])) rfl

set_option maxRecDepth 100000 in
set_option maxHeartbeats 4000000 in
theorem gtimes_any (p : Int) (cn on : Nat) (a b : Option Addr) (ca cb : Nat) (z y : List (List Int)) (w : World) (hp : 2 ≤ p) (hp1 : p ≤ 31) (hr : GridR w a p z) (hr' : GridR w b p y) (hz1 : z.length ≤ 1000) (hcn : cn ≤ 1000) (hon : on ≤ 1000)
    (hrow : ∀ r, r < z.length → (nthL z r).length = cn ∧ Elems p (nthL z r)) (hy : y.length = cn) (hrow' : ∀ r, r < y.length → (nthL y r).length = on ∧ Elems p (nthL y r)) :
    Calls Try.prog 104 #[.agg #[.slice a z.length ca, .int .i64 p, .int .i64 (cn : Int)], .agg #[.slice b y.length cb, .int .i64 p, .int .i64 (on : Int)]] w fun e w' => (∃ v us, e = .returned (.agg #[v, .int .i64 p, .int .i64 (on : Int)]) ∧ OwnG w' w.heap.size p v us (prod z y p cn on)) ∧ Below w.heap.size w w' := by
  have HR := Lib.hid hr
  have HR' := Lib.hid hr'
  have HRW := Lib.hid hrow
  have HRW' := Lib.hid hrow'
  have HY := Lib.hid hy
  clear hr hr' hrow hrow' hy
  go_enter Try.func104, Try.ntmps104
  go_wp2_with fail
  have hb3 := (((Below.refl w.heap.size w).alloc (Nat.le_refl _) (.cells #[.slice a z.length ca, .int .i64 p, .int .i64 (cn : Int)] 102)).alloc (by simp) (.cells #[.slice b y.length cb, .int .i64 p, .int .i64 (on : Int)] 102)).alloc (by simp; omega) (.cells #[.slice none 0 0, .int .i64 0, .int .i64 0] 102)
  have hx1 : Boxes (((w.alloc (.cells #[.slice a z.length ca, .int .i64 p, .int .i64 (cn : Int)] 102)).alloc (.cells #[.slice b y.length cb, .int .i64 p, .int .i64 (on : Int)] 102)).alloc (.cells #[.slice none 0 0, .int .i64 0, .int .i64 0] 102)) w.heap.size 102 #[.slice a z.length ca, .int .i64 p, .int .i64 (cn : Int)] := (Boxes.step (World.alloc_heap_new w _) ((Below.refl _ _).alloc (Nat.le_refl _) (.cells #[.slice b y.length cb, .int .i64 p, .int .i64 (on : Int)] 102))).step ((Below.refl _ _).alloc (Nat.le_refl _) (.cells #[.slice none 0 0, .int .i64 0, .int .i64 0] 102))
  have hx2 : Boxes (((w.alloc (.cells #[.slice a z.length ca, .int .i64 p, .int .i64 (cn : Int)] 102)).alloc (.cells #[.slice b y.length cb, .int .i64 p, .int .i64 (on : Int)] 102)).alloc (.cells #[.slice none 0 0, .int .i64 0, .int .i64 0] 102)) (w.heap.size + 1) 102 #[.slice b y.length cb, .int .i64 p, .int .i64 (on : Int)] := by
    have h : Boxes ((w.alloc (.cells #[.slice a z.length ca, .int .i64 p, .int .i64 (cn : Int)] 102)).alloc (.cells #[.slice b y.length cb, .int .i64 p, .int .i64 (on : Int)] 102)) (w.alloc (.cells #[.slice a z.length ca, .int .i64 p, .int .i64 (cn : Int)] 102)).heap.size 102 #[.slice b y.length cb, .int .i64 p, .int .i64 (on : Int)] := World.alloc_heap_new _ _
    simp only [World.size_alloc] at h
    exact h.step ((Below.refl _ _).alloc (Nat.le_refl _) (.cells #[.slice none 0 0, .int .i64 0, .int .i64 0] 102))
  have hx3 : Boxes (((w.alloc (.cells #[.slice a z.length ca, .int .i64 p, .int .i64 (cn : Int)] 102)).alloc (.cells #[.slice b y.length cb, .int .i64 p, .int .i64 (on : Int)] 102)).alloc (.cells #[.slice none 0 0, .int .i64 0, .int .i64 0] 102)) (w.heap.size + 2) 102 #[.slice none 0 0, .int .i64 0, .int .i64 0] := by
    have h : Boxes (((w.alloc (.cells #[.slice a z.length ca, .int .i64 p, .int .i64 (cn : Int)] 102)).alloc (.cells #[.slice b y.length cb, .int .i64 p, .int .i64 (on : Int)] 102)).alloc (.cells #[.slice none 0 0, .int .i64 0, .int .i64 0] 102)) ((w.alloc (.cells #[.slice a z.length ca, .int .i64 p, .int .i64 (cn : Int)] 102)).alloc (.cells #[.slice b y.length cb, .int .i64 p, .int .i64 (on : Int)] 102)).heap.size 102 #[.slice none 0 0, .int .i64 0, .int .i64 0] := World.alloc_heap_new _ _
    simp only [World.size_alloc] at h
    exact h
  have hs3 : (((w.alloc (.cells #[.slice a z.length ca, .int .i64 p, .int .i64 (cn : Int)] 102)).alloc (.cells #[.slice b y.length cb, .int .i64 p, .int .i64 (on : Int)] 102)).alloc (.cells #[.slice none 0 0, .int .i64 0, .int .i64 0] 102)).heap.size = w.heap.size + 3 := by simp
  refine (zeros_any p z.length on _ hz1 hon).mono ?_
  generalize ((w.alloc (.cells #[.slice a z.length ca, .int .i64 p, .int .i64 (cn : Int)] 102)).alloc (.cells #[.slice b y.length cb, .int .i64 p, .int .i64 (on : Int)] 102)).alloc (.cells #[.slice none 0 0, .int .i64 0, .int .i64 0] 102) = w3 at *
  rintro e w4 ⟨⟨v, us, rfl, ho⟩, hb4⟩
  obtain ⟨va, vc, rfl⟩ := ho.form
  rw [zs_len]
  have hs4 : w.heap.size + 3 ≤ w4.heap.size := by have := hb4.size; omega
  have HX1 := Lib.hid (hx1.step hb4)
  have HX2 := Lib.hid (hx2.step hb4)
  have HX3 := Lib.hid (hx3.step hb4)
  have HB4 := Lib.hid (hb3.trans (hb4.mono (by omega)))
  have HO := Lib.hid (show OwnG w4 (w.heap.size + 3) p (.slice va z.length vc) us (tab z.length on (prAt z y p cn 0 0)) by
    have h1 := ho
    rw [hs3, prAt_start z y p cn, tab_len] at h1
    exact h1)
  clear hb3 hx1 hx2 hx3 hb4 ho
  have hb5 := (Below.refl w4.heap.size w4).alloc (Nat.le_refl _) (.cells #[.slice va z.length vc, .int .i64 p, .int .i64 (on : Int)] 102)
  have HX5 := Lib.hid (show Boxes (w4.alloc (.cells #[.slice va z.length vc, .int .i64 p, .int .i64 (on : Int)] 102)) w4.heap.size 102 #[.slice va z.length vc, .int .i64 p, .int .i64 (on : Int)] from World.alloc_heap_new _ _)
  have HY2 := Lib.hid (HX2.out.step hb5)
  have HY3 := Lib.hid (HX3.out.step hb5)
  have HO5 := Lib.hid (HO.out.step hb5)
  have HB5 := Lib.hid (HB4.out.trans (hb5.mono (by omega)))
  have c0 := HX1.out.m0
  have hl0 := HX1.out.lt
  have hl00 : w.heap.size < w4.heap.size + 1 := by omega
  go_wp2_with fail
  have hs5 : (w4.alloc (.cells #[.slice va z.length vc, .int .i64 p, .int .i64 (on : Int)] 102)).heap.size = w4.heap.size + 1 := by simp
  generalize w4.alloc (.cells #[.slice va z.length vc, .int .i64 p, .int .i64 (on : Int)] 102) = w5 at *
  generalize hq : w4.heap.size = q at *
  clear hb5 c0 hl0 hl00 HX1 HX2 HX3 HO HB4
  go_loopw [6, 7, 8, 9, 21] (fun q6 q7 q8 q9 qi wr => ∃ (i : Nat), i ≤ z.length ∧ qi = .int .i64 i ∧ Boxes wr (w.heap.size + 1) 102 #[.slice b y.length cb, .int .i64 p, .int .i64 (on : Int)] ∧ Boxes wr (w.heap.size + 2) 102 #[.slice none 0 0, .int .i64 0, .int .i64 0] ∧ Boxes wr q 102 #[.slice va z.length vc, .int .i64 p, .int .i64 (on : Int)] ∧ OwnG wr (w.heap.size + 3) p (.slice va z.length vc) us (tab z.length on (prAt z y p cn i 0)) ∧ Below w.heap.size w wr)
    (fun _ _ _ _ qi _ => z.length - (intOf qi).toNat)
  case atStart => exact ⟨0, Nat.zero_le _, rfl, HY2.out, HY3.out, HX5.out, HO5.out, HB5.out⟩
  case round =>
    obtain ⟨i, hi, rfl, hx2, hx3, hx5, hog, hb⟩ := hrel
    have D := Lib.hid (And.intro hx2 (And.intro hx3 (And.intro hx5 (And.intro hog hb))))
    clear hx2 hx3 hx5 hog hb HY2 HY3 HX5 HO5 HB5
    obtain ⟨wo, rfl⟩ : ∃ wo : World, wo = wr := ⟨_, rfl⟩
    by_cases hlt : i < z.length
    · rcases HR.out.below D.out.2.2.2.2 (Nat.le_refl _) with h | ⟨bz, rfl, hc⟩
      · rw [h] at hlt; exact absurd hlt (Nat.not_lt_zero _)
      obtain ⟨ai, ci, hcell, hnums⟩ := hc i hlt
      have hi0 : (i : Int) < (z.length : Int) := by omega
      have hlen := (HRW.out i hlt).1
      have HEZ := Lib.hid (HRW.out i hlt).2
      rw [hlen] at hcell
      have HNU := Lib.hid (nums_old HR.out D.out.2.2.2.2 hlt hcell hnums)
      have HLN := Lib.hid hlen
      clear hc hnums hlen
      go_wp2_with fail
      go_loopw [8, 9, 28] (fun q8 q9 qk wi => ∃ (k : Nat), k ≤ cn ∧ qk = .int .i64 k ∧ Boxes wi (w.heap.size + 1) 102 #[.slice b y.length cb, .int .i64 p, .int .i64 (on : Int)] ∧ Boxes wi (w.heap.size + 2) 102 #[.slice none 0 0, .int .i64 0, .int .i64 0] ∧ Boxes wi q 102 #[.slice va z.length vc, .int .i64 p, .int .i64 (on : Int)] ∧ OwnG wi (w.heap.size + 3) p (.slice va z.length vc) us (tab z.length on (prAt z y p cn i k)) ∧ Below w.heap.size w wi)
        (fun _ _ qk _ => cn - (intOf qk).toNat)
      case atStart => exact ⟨0, Nat.zero_le _, rfl, D.out.1, D.out.2.1, D.out.2.2.1, D.out.2.2.2.1, D.out.2.2.2.2⟩
      case round =>
        obtain ⟨k, hk, rfl, hx2, hx3, hx5, hog, hb⟩ := hrel
        have DI := Lib.hid (And.intro True.intro (And.intro hx2 (And.intro hx3 (And.intro hx5 (And.intro hog hb)))))
        have HBI := Lib.hid hb
        clear hx2 hx3 hx5 hog hb
        by_cases hltk : k < cn
        · rcases HNU.out.below HBI.out (Nat.le_refl _) with h | ⟨b2, rfl, hc2⟩
          · exact absurd (show (nthL z i).length = 0 by rw [h]; rfl) (by have := HLN.out; omega)
          obtain ⟨hc20, hc21⟩ := hc2 k (by have := HLN.out; omega)
          have hk0 : (k : Int) < (cn : Int) := by omega
          have hky : k < y.length := by have := HY.out; omega
          have hky0 : (k : Int) < (y.length : Int) := by omega
          have HEF := Lib.hid (HEZ.out k (by have := HLN.out; omega))
          have HYL := Lib.hid (HRW'.out k hky).1
          have HEY := Lib.hid (show ∀ j, j < on → Elem p (nth (nthL y k) j) from fun j hj => (HRW'.out k hky).2 j (by have := HYL.out; omega))
          rcases HR'.out with h | ⟨by1, rfl, hcy⟩
          · rw [h] at hky; exact absurd hky (Nat.not_lt_zero _)
          obtain ⟨ay, cy, hcely, hnumy⟩ := hcy k hky
          have HNY := Lib.hid hnumy
          have hly := World.block_lt_of_cell? _ _ hcely
          simp only at hly
          have hcy0 := (HBI.out.cell (p := ⟨by1, k, none⟩) hly).trans hcely
          have hly1 : by1 < wr.heap.size := Nat.lt_of_lt_of_le hly HBI.out.size
          have hly2 : by1 < wr.heap.size + 1 := by omega
          have t30 := DI.out.2.1.m0
          have tl3 := DI.out.2.1.lt
          have tl31 : w.heap.size + 1 < wr.heap.size + 1 := by omega
          have t50 := DI.out.2.2.2.1.m0
          have tl5 := DI.out.2.2.2.1.lt
          have tl51 : q < wr.heap.size + 1 := by omega
          have HLEN := Lib.hid hc21
          clear hc2 hcy hnumy hcely
          have HA := Lib.hid (show Below wr.heap.size wr (wr.alloc (.cells #[.int .i64 p, .int .i64 (nth (nthL z i) k)] 126)).drew from ((Below.refl _ _).alloc (Nat.le_refl _) _).drew)
          go_wp2_with fail
          go_region_law (first | (go_simp; go_at_call 142; refine (increased_any p (nth (nthL z i) k) cy (nthL y k).length ay _).mono ?_; rintro e w8 ⟨rfl, hb2, hb3, hb8⟩; simp only [World.size_drew, World.size_alloc] at hb2 hb3; have HB2 := Lib.hid hb2; have HB3 := Lib.hid hb3; have HB8 := Lib.hid (HA.out.trans (hb8.mono HA.out.size)); have hs8 : wr.heap.size ≤ w8.heap.size := HB8.out.size; have z0 := (DI.out.2.2.2.1.step HB8.out).m0; have zl := (DI.out.2.2.2.1.step HB8.out).lt) | (go_simp; go_at_call 141; refine (changeRow_gen p va vc z.length on i (w.heap.size + 3) 168 _ us (prAt z y p cn i k) (fun j x => (x + nth (nthL y k) j * nth (nthL z i) k % p) % p) _ (by first | exact DI.out.2.2.2.2.1.step HB8.out | exact (DI.out.2.2.2.2.1.step HB8.out).step (drew_step _)) hlt hz1 hon (fun g cap hu hg hgl h0 => ⟨_, incr_changes g _ _ cy on ay p (nth (nthL z i) k) (nthL y k) _ hp hp1 HYL.out hon HEF.out HEY.out (fun j _ => prAt_elem z y p cn i k hp i j) (by have := DI.out.2.2.2.2.1.rlt hu; simp; omega) (by have := DI.out.2.2.2.2.1.rlt hu; simp; omega) (fun a ha => by have := nums_block HNY.out (by rw [HYL.out]; exact h0) a ha; omega), ⟨by first | exact HB2.out | exact HB2.out.step (drew_step _), by first | exact HB3.out | exact HB3.out.step (drew_step _), HNY.out.below ((HBI.out.trans (HB8.out.mono HBI.out.size)).trans (by first | exact Below.refl _ _ | exact (Below.refl _ _).drew)) (Nat.le_refl _)⟩⟩)).mono ?_; rintro e w9 ⟨rfl, ho9, hb9, hs9, hbx9⟩))
          all_goals (
            have HO9 := Lib.hid (show OwnG w9 (w.heap.size + 3) p (.slice va z.length vc) us (tab z.length on (prAt z y p cn i (k + 1))) by rw [← prAt_step]; exact ho9)
            have HB9 := Lib.hid (show Below w.heap.size w w9 from (HBI.out.trans (HB8.out.mono HBI.out.size)).trans (by first | exact hb9.mono (by omega) | exact (Below.refl _ _).drew.trans (hb9.mono (by omega))))
            have HX29 := Lib.hid (hbx9 (w.heap.size + 1) 102 #[.slice (some ⟨by1, 0, none⟩) y.length cb, .int .i64 p, .int .i64 (on : Int)] (by decide) (by first | exact DI.out.2.1.step HB8.out | exact (DI.out.2.1.step HB8.out).step (drew_step _)))
            have HX39 := Lib.hid (hbx9 (w.heap.size + 2) 102 #[.slice none 0 0, .int .i64 0, .int .i64 0] (by decide) (by first | exact DI.out.2.2.1.step HB8.out | exact (DI.out.2.2.1.step HB8.out).step (drew_step _)))
            have HX59 := Lib.hid (hbx9 q 102 #[.slice va z.length vc, .int .i64 p, .int .i64 (on : Int)] (by decide) (by first | exact DI.out.2.2.2.1.step HB8.out | exact (DI.out.2.2.2.1.step HB8.out).step (drew_step _)))
            clear ho9 hb9 hbx9 hs9
            go_wp2_with fail
            go_roundw
            case rel => exact ⟨k + 1, by omega, by go_num, HX29.out, HX39.out, HX59.out, HO9.out, HB9.out⟩
            case measure => simp [intOf]; omega)
        · have HE := Lib.hid (show k = cn by omega)
          go_wp2_with fail
          go_roundw
          case rel => exact ⟨i + 1, by omega, by go_num, DI.out.2.1, DI.out.2.2.1, DI.out.2.2.2.1, by have := DI.out.2.2.2.2.1; rw [HE.out, prAt_next] at this; exact this, HBI.out⟩
          case measure => simp [intOf]; omega
    · have HE := Lib.hid (show i = z.length by omega)
      have t0 := D.out.2.2.1.m0
      have t1 := D.out.2.2.1.m1
      have t2 := D.out.2.2.1.m2
      have e0 := D.out.2.1.m0
      have e1 := D.out.2.1.m1
      have e2 := D.out.2.1.m2
      have f0 := D.out.2.1.frozen 0
      have f1 := D.out.2.1.frozen 1
      have f2 := D.out.2.1.frozen 2
      go_wp2_with fail
      refine bodyPost_ret (v := .agg #[.slice va z.length vc, .int .i64 p, .int .i64 (on : Int)]) (by simp [results, Try.results104, go_sem, e0, e1, e2]) rfl ⟨⟨_, us, rfl, ?_⟩, ?_⟩
      · have ho := D.out.2.2.2.1
        rw [HE.out, prAt_end] at ho
        exact (((ho.setCell2 (p := ⟨w.heap.size + 2, 0, none⟩) (by show w.heap.size + 2 < w.heap.size + 3; omega) _).setCell2 (p := ⟨w.heap.size + 2, 1, none⟩) (by show w.heap.size + 2 < w.heap.size + 3; omega) _).setCell2 (p := ⟨w.heap.size + 2, 2, none⟩) (by show w.heap.size + 2 < w.heap.size + 3; omega) _).mono (Nat.le_add_right _ 3)
      · exact ((D.out.2.2.2.2.setCell (p := ⟨w.heap.size + 2, 0, none⟩) (Nat.le_add_right _ 2) _).setCell (p := ⟨w.heap.size + 2, 1, none⟩) (Nat.le_add_right _ 2) _).setCell (p := ⟨w.heap.size + 2, 2, none⟩) (Nat.le_add_right _ 2) _
end Go.Proofs.Ytnebkhelobpkpaa
