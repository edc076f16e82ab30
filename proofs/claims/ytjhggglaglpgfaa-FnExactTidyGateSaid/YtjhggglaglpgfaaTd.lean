/- l02Tidy of the model; TidyGate, the program's and the model's. -/
import Derived.Test.YtjhggglaglpgfaaTn
import Derived.BigQuiet
namespace Go.Proofs.Ytjhggglaglpgfaa
open Go.RowKit Go.Deep Go.Joins Go.ChangeShapes Go.WideShapes Go.ChangeAt
set_option linter.unusedVariables false

/-- Which kids of a node with so many give place to their own kids. -/
def tQ (l : Int) (n : Nat) (x : Int) (y : Nat) : Bool := (l == 1 && x == 1) || (l == (n : Int) && x == (y : Int))
theorem tidy_eq (h l : Int) (k : Fo) (hk : 2 ≤ k.len) : tidyF h l k = (h, if l = (k.len : Int) then ((k.spread (tQ l k.len)).len : Int) else l, k.spread (tQ l k.len)) := by
  unfold tidyF
  rw [if_neg (by omega), if_neg (by omega)]
  by_cases h1 : l = 1
  · have e : tQ l k.len = fun x _ => x == 1 := by
      funext x y
      have : ((1 : Int) == (k.len : Int)) = false := by simp; omega
      simp [tQ, h1, this]
    rw [if_pos h1, if_neg (by omega), e, h1]
  · by_cases h2 : l = (k.len : Int)
    · have e : tQ l k.len = fun (x : Int) (y : Nat) => x == (y : Int) := by
        funext x y
        have t : ((k.len : Int) == 1) = false := by simp; omega
        simp [tQ, h2, t]
      rw [if_neg h1, if_pos h2, if_pos h2, e]
    · have e : tQ l k.len = fun _ _ => false := by
        funext x y
        simp [tQ, h1, h2]
      rw [if_neg h1, if_neg h2, if_neg h2, e, Fo.spread_none]
theorem GsAt.app {W : World} {ok : Nat → Prop} {f g : Fo} {xs ys : List Value} (h : GsAt W ok f f.len xs) (hl : xs.length = f.len * 3) (hg : GsAt W ok g g.len ys) : GsAt W ok (f.app g) (f.app g).len (xs ++ ys) := by
  intro j hj
  rw [Fo.app_len] at hj
  by_cases e : j < f.len
  · obtain ⟨h1, h2, a, c, h3, h4⟩ := h j e
    obtain ⟨e1, e2, e3⟩ := Fo.app_left f g e
    rw [e1, e2, e3]
    exact ⟨by rw [List.getElem?_append_left (by omega)]; exact h1, by rw [List.getElem?_append_left (by omega)]; exact h2, a, c, by rw [List.getElem?_append_left (by omega)]; exact h3, h4⟩
  · obtain ⟨i, rfl⟩ : ∃ i, j = f.len + i := ⟨j - f.len, by omega⟩
    obtain ⟨h1, h2, a, c, h3, h4⟩ := hg i (by omega)
    obtain ⟨e1, e2, e3⟩ := Fo.app_right f g i
    rw [e1, e2, e3]
    refine ⟨?_, ?_, a, c, ?_, h4⟩
    · rw [List.getElem?_append_right (by omega), hl, show (f.len + i) * 3 - f.len * 3 = i * 3 by omega]; exact h1
    · rw [List.getElem?_append_right (by omega), hl, show (f.len + i) * 3 + 1 - f.len * 3 = i * 3 + 1 by omega]; exact h2
    · rw [List.getElem?_append_right (by omega), hl, show (f.len + i) * 3 + 2 - f.len * 3 = i * 3 + 2 by omega]; exact h3
theorem QAt.list {W : World} {ok : Nat → Prop} {f : Fo} {b o : Nat} (h : QAt W ok f b o) : ∃ ys : List Value, ys.length = f.len * 3 ∧ GsAt W ok f f.len ys ∧ (∀ j u, ys[j]? = some u → W.cell? ((⟨b, o, none⟩ : Addr).add j) = some u) ∧ ∀ u ∈ ys, u.oneCell' = true := by
  induction f generalizing o with
  | nil => exact ⟨[], rfl, fun j hj => absurd hj (Nat.not_lt_zero _), fun j u hj => by simp at hj, fun u hu => by simp at hu⟩
  | cons x l k r _ ih =>
    obtain ⟨c1, c2, ⟨a, c, c3, c4⟩, c5⟩ := h
    obtain ⟨ys, h1, h2, h3, h4⟩ := ih c5
    refine ⟨.int .i64 x :: .int .i64 l :: .slice a k.len c :: ys, by simp [Fo.len, h1]; omega, fun j hj => ?_, fun j u hj => ?_, fun u hu => ?_⟩
    · cases j with
      | zero => exact ⟨rfl, rfl, a, c, rfl, c4⟩
      | succ j =>
        obtain ⟨q1, q2, a2, c2', q3, q4⟩ := h2 j (by simp [Fo.len] at hj; omega)
        simp only [Fo.hAt, Fo.lAt, Fo.kAt]
        refine ⟨?_, ?_, a2, c2', ?_, q4⟩
        · rw [show (j + 1) * 3 = j * 3 + 1 + 1 + 1 by omega]; simpa using q1
        · rw [show (j + 1) * 3 + 1 = j * 3 + 1 + 1 + 1 + 1 by omega]; simpa using q2
        · rw [show (j + 1) * 3 + 2 = j * 3 + 2 + 1 + 1 + 1 by omega]; simpa using q3
    · rw [add_plain]
      match j, hj with
      | 0, hj => simp at hj; subst hj; exact c1
      | 1, hj => simp at hj; subst hj; exact c2
      | 2, hj => simp at hj; subst hj; exact c3
      | j + 3, hj =>
        have := h3 j u (by simpa using hj)
        rw [add_plain] at this
        rw [show o + (j + 3) = o + 3 + j by omega]
        exact this
    · simp at hu
      rcases hu with rfl | rfl | rfl | hu
      · rfl
      · rfl
      · rfl
      · exact h4 u hu
theorem kids_list {W : World} {ok : Nat → Prop} {a : Option Addr} {f : Fo} (h : KidsQ W ok a f) (hf : 0 < f.len) : ∃ (b o : Nat) (ys : List Value), a = some ⟨b, o, none⟩ ∧ ys.length = f.len * 3 ∧ GsAt W ok f f.len ys ∧ (∀ j u, ys[j]? = some u → W.cell? ((⟨b, o, none⟩ : Addr).add j) = some u) ∧ ∀ u ∈ ys, u.oneCell' = true := by
  rcases h with h | ⟨b, o, e, hb, h⟩
  · rw [h] at hf; exact absurd hf (Nat.not_lt_zero _)
  · obtain ⟨ys, h1, h2, h3, h4⟩ := h.list
    exact ⟨b, o, ys, e, h1, h2, h3, h4⟩

set_option maxRecDepth 100000 in
set_option maxHeartbeats 8000000 in
theorem l02Tidy_any : ∀ (m : Nat) (f : Fo), f.size < m → m ≤ 1048577 → ∀ (B pb po : Nat) (n h l : Int) (a : Option Addr) (c : Nat) (w : World), Fo.gform n h l f →
    w.cell? ⟨pb, po, none⟩ = some (.int .i64 h) → w.cell? ⟨pb, po + 1, none⟩ = some (.int .i64 l) → w.cell? ⟨pb, po + 2, none⟩ = some (.slice a f.len c) → Kids w B a f →
    Calls Try.prog 36 #[.pointer (some ⟨pb, po, none⟩)] w fun e w' => (∃ a' c', e = .returned (.agg #[.int .i64 (tidyF h l (f.re tidyF)).1, .int .i64 (tidyF h l (f.re tidyF)).2.1, .slice a' (tidyF h l (f.re tidyF)).2.2.len c']) ∧ KidsQ w' (w.heap.size ≤ ·) a' (tidyF h l (f.re tidyF)).2.2) ∧ Below w.heap.size w w' := by
  intro m
  induction m with
  | zero => exact fun f hf => absurd hf (Nat.not_lt_zero _)
  | succ m ih =>
    intro f hf hm B pb po n h l a c w hg p0 p1 p2 hk
    have hlen := f.len_le
    have hpb : pb < w.heap.size := World.block_lt_of_cell? _ _ p2
    have hb := (Below.refl w.heap.size w).alloc (Nat.le_refl _) (.cells #[.int .i64 0, .int .i64 0, .slice none 0 0] 28)
    have hx : Boxes (w.alloc (.cells #[.int .i64 0, .int .i64 0, .slice none 0 0] 28)) w.heap.size 28 #[.int .i64 0, .int .i64 0, .slice none 0 0] := World.alloc_heap_new _ _
    by_cases hz : f.len = 0
    · have hzn := Fo.len_zero hz
      subst hzn
      clear hz
      obtain ⟨g0, g1, g2⟩ := gform_nil.1 hg
      subst g0
      have p3 : w.cell? ⟨pb, po + 2, none⟩ = some (.slice a 0 c) := p2
      clear ih hg p2
      have HBB := Lib.hid hb
      have HXX := Lib.hid hx
      clear hb hx
      go_enter Try.func36, Try.ntmps36
      go_wp2_with fail
      refine (l02Leaf_any h _).mono ?_
      generalize w.alloc (.cells #[.int .i64 0, .int .i64 0, .slice none 0 0] 28) = w1 at *
      rintro e w2 ⟨rfl, hb2⟩
      have hx2 := HXX.out.step hb2
      have x0 := hx2.g0
      have x1 := hx2.g1
      have x2 := hx2.g2
      have f0 := hx2.gf 0
      have f1 := hx2.gf 1
      have f2 := hx2.gf 2
      have xl := hx2.lt
      have HB := Lib.hid (HBB.out.trans (hb2.mono HBB.out.size))
      clear hb2 hx2
      go_wp2_with fail
      refine bodyPost_ret (v := .agg #[.int .i64 h, .int .i64 0, .slice none 0 0]) (by simp [results, Try.results36, go_sem, x0, x1, x2]) rfl ⟨⟨none, 0, rfl, .inl rfl⟩, ?_⟩
      exact ((HB.out.setCell (p := ⟨w.heap.size, 0, none⟩) (Nat.le_refl _) _).setCell (p := ⟨w.heap.size, 1, none⟩) (Nat.le_refl _) _).setCell (p := ⟨w.heap.size, 2, none⟩) (Nat.le_refl _) _
    have hpos : 0 < f.len := by omega
    have s0 : (f.len == 0) = false := by simp; omega
    have s1 : ((f.len : Int) == 0) = false := by simp; omega
    obtain ⟨rfl, hl1, hl2, hfo⟩ := (gform_some hpos).1 hg
    have HIH := Lib.hid ih
    have HF := Lib.hid hfo
    have HRL := Lib.hid (Fo.re_len tidyF f)
    have HRE := Lib.hid (fun i (hi : i < f.len) => Fo.re_get tidyF f hi)
    have HPOS := Lib.hid hpos
    have HP := Lib.hid (And.intro p0 (And.intro p1 p2))
    have HK := Lib.hid hk
    by_cases h1 : f.len = 1
    · have HT := Lib.hid (show tidyF (-1) l (f.re tidyF) = ((f.re tidyF).hAt 0, (f.re tidyF).lAt 0, (f.re tidyF).kAt 0) by unfold tidyF; rw [if_neg (by rw [Fo.re_len]; omega), if_pos (by rw [Fo.re_len]; exact h1)])
      rcases hk with h | ⟨b, o, rfl, hBb, hF⟩
      · rw [h] at hpos; exact absurd hpos (Nat.not_lt_zero _)
      obtain ⟨g1, g2, ai, ci, g3, g4⟩ := hF.get (i := 0) hpos
      simp only [Nat.zero_mul, Nat.add_zero] at g1 g2 g3
      have hs := f.k_size hpos
      have HGF := Lib.hid (Fo.form_get hfo hpos)
      have HGC := Lib.hid (And.intro (cell_step hb g1) (And.intro (cell_step hb g2) (And.intro (cell_step hb g3) (g4.step hb))))
      obtain ⟨e1, e2, e3⟩ := Fo.re_get tidyF f hpos
      have HE := Lib.hid (And.intro e1 (And.intro e2 e3))
      have t1 : (f.len == 1) = true := by simp [h1]
      have t2 : ((f.len : Int) == 1) = true := by simp [h1]
      have t3 : (0 : Int) < (f.len : Int) := by omega
      have HBB := Lib.hid hb
      have HXX := Lib.hid hx
      clear ih hg hfo hz h1 g1 g2 g3 g4 hF hb hx e1 e2 e3
      generalize f.hAt 0 = gh at *
      generalize f.lAt 0 = gl at *
      generalize f.kAt 0 = gk at *
      go_enter Try.func36, Try.ntmps36
      go_wp2_with fail
      refine (HIH.out gk (by omega) (by omega) B b o n gh gl ai ci _ HGF.out HGC.out.1 HGC.out.2.1 HGC.out.2.2.1 HGC.out.2.2.2).mono ?_
      generalize hw1 : w.alloc (.cells #[.int .i64 0, .int .i64 0, .slice none 0 0] 28) = w1 at *
      have hws : w1.heap.size = w.heap.size + 1 := by rw [← hw1]; simp
      clear hw1
      rintro e w2 ⟨⟨a2, c2, rfl, hk2⟩, hb2⟩
      have hx2 := HXX.out.step hb2
      have x0 := hx2.g0
      have x1 := hx2.g1
      have x2 := hx2.g2
      have f0 := hx2.gf 0
      have f1 := hx2.gf 1
      have f2 := hx2.gf 2
      have xl := hx2.lt
      have HB := Lib.hid (HBB.out.trans (hb2.mono HBB.out.size))
      have HK2 := Lib.hid hk2
      clear hb2 hx2 hk2
      go_wp2_with fail
      refine bodyPost_ret (v := .agg #[.int .i64 (tidyF gh gl (gk.re tidyF)).1, .int .i64 (tidyF gh gl (gk.re tidyF)).2.1, .slice a2 (tidyF gh gl (gk.re tidyF)).2.2.len c2]) (by simp [results, Try.results36, go_sem, x0, x1, x2]) rfl ⟨⟨a2, c2, ?_, ?_⟩, ?_⟩
      · rw [HT.out, HE.out.1, HE.out.2.1, HE.out.2.2]
      · rw [HT.out, HE.out.2.2]
        exact HK2.out.map fun b o v (q : w1.heap.size ≤ b) hc => ⟨by show w.heap.size ≤ b; omega, by
          rw [World.cell?_of_block (Below.heap_setCell _ _ _ b (fun e => by simp at e; omega)), World.cell?_of_block (Below.heap_setCell _ _ _ b (fun e => by simp at e; omega)), World.cell?_of_block (Below.heap_setCell _ _ _ b (fun e => by simp at e; omega))]
          exact hc⟩
      · exact ((HB.out.setCell (p := ⟨w.heap.size, 0, none⟩) (Nat.le_refl _) _).setCell (p := ⟨w.heap.size, 1, none⟩) (Nat.le_refl _) _).setCell (p := ⟨w.heap.size, 2, none⟩) (Nat.le_refl _) _
    have h2 : 2 ≤ f.len := by omega
    have HT := Lib.hid (show tidyF (-1) l (f.re tidyF) = (-1, if l = (f.len : Int) then (((f.re tidyF).spread (tQ l f.len)).len : Int) else l, (f.re tidyF).spread (tQ l f.len)) by have := tidy_eq (-1) l (f.re tidyF) (by rw [Fo.re_len]; exact h2); rw [Fo.re_len] at this; exact this)
    have HSP := Lib.hid (Fo.spread_pos (tQ l f.len) (f.re tidyF) (by rw [Fo.re_len]; exact hpos))
    have t1 : (f.len == 1) = false := by simp [h1]
    have t2 : ((f.len : Int) == 1) = false := by simp; omega
    have HTS := Lib.hid (tidy_size f)
    obtain ⟨i3, ji, jz0, jz1, jz2⟩ := info_parts Try.infoGate
    clear ih hk hg hfo hz h1
    clear hb hx
    obtain ⟨ev, hev⟩ : ∃ ev : Bool, (l == (f.len : Int)) = ev := ⟨_, rfl⟩
    go_enter Try.func36, Try.ntmps36
    go_wp2_with fail
    go_quiet (fail)
    have hb1 := ((Below.refl w.heap.size w).alloc (Nat.le_refl _) (.cells #[.int .i64 0, .int .i64 0, .slice none 0 0] 28)).trans ((quiet_below (⟨nq, rfl⟩ : Quiet (w.alloc (.cells #[.int .i64 0, .int .i64 0, .slice none 0 0] 28)) ((w.alloc (.cells #[.int .i64 0, .int .i64 0, .slice none 0 0] 28)).drewN nq))).mono (by simp))
    have hx1 : Boxes ((w.alloc (.cells #[.int .i64 0, .int .i64 0, .slice none 0 0] 28)).drewN nq) w.heap.size 28 #[.int .i64 0, .int .i64 0, .slice none 0 0] := Boxes.step (World.alloc_heap_new w _) (quiet_below ⟨nq, rfl⟩)
    have hs1 : ((w.alloc (.cells #[.int .i64 0, .int .i64 0, .slice none 0 0] 28)).drewN nq).heap.size = w.heap.size + 1 := by simp
    generalize (w.alloc (.cells #[.int .i64 0, .int .i64 0, .slice none 0 0] 28)).drewN nq = w0 at *
    have HEV := Lib.hid hev
    clear hev p0 p1 p2
    go_wp2_with fail
    have hb2 := hb1.alloc (by omega) (.cells #[] 28)
    have hx2 := hx1.step ((Below.refl _ _).alloc (Nat.le_refl _) (.cells #[] 28))
    have ho2 : (w0.alloc (.cells #[] 28)).ownsRow (w.heap.size + 1) 28 3 (.slice (some ⟨w0.heap.size, 0, none⟩) 0 0) 0 [] := by
      refine ⟨rfl, .inr ⟨w0.heap.size, 0, #[], rfl, by omega, World.alloc_heap_new _ _, Nat.le_refl _, by unfold maxLen; omega, rfl, rfl⟩⟩
    have HB1 := Lib.hid hb2
    have HX1 := Lib.hid hx2
    have HO1 := Lib.hid ho2
    generalize w0.alloc (.cells #[] 28) = w1 at *
    clear hb1 hx1 hb2 hx2 ho2
    go_loopw [4, 5, 6, 7] (fun q4 i _ _ wr => ∃ (k : Nat) (xa : Option Addr) (xc : Nat) (xs : List Value), k ≤ f.len ∧ i = .int .i64 k ∧ q4 = .slice xa (((f.re tidyF).tk k).spread (tQ l f.len)).len xc ∧ Boxes wr w.heap.size 28 #[.int .i64 0, .int .i64 0, .slice none 0 0] ∧ wr.ownsRow (w.heap.size + 1) 28 3 (.slice xa (((f.re tidyF).tk k).spread (tQ l f.len)).len xc) (((f.re tidyF).tk k).spread (tQ l f.len)).len xs ∧ GsAt wr (fun q => w.heap.size + 1 ≤ q ∧ ∀ a, xa = some a → q ≠ a.block) (((f.re tidyF).tk k).spread (tQ l f.len)) (((f.re tidyF).tk k).spread (tQ l f.len)).len xs ∧ Below w.heap.size w wr)
      (fun _ i _ _ _ => f.len - (intOf i).toNat)
    case atStart => exact ⟨0, _, 0, [], Nat.zero_le _, rfl, by rw [Fo.tk_zero]; rfl, HX1.out, by rw [Fo.tk_zero]; have := HO1.out; rw [hs1] at this; exact this, fun j hj => by rw [Fo.tk_zero] at hj; exact absurd hj (Nat.not_lt_zero _), HB1.out⟩
    case round =>
      obtain ⟨k, xa, xc, xs, hk, rfl, rfl, hx, hown, hgs, hb⟩ := hrel
      have hglen : (((f.re tidyF).tk k).spread (tQ l f.len)).len ≤ 1048576 := by
        have e1 := (((f.re tidyF).tk k).spread (tQ l f.len)).len_le
        have e2 := Fo.spread_size (tQ l f.len) ((f.re tidyF).tk k)
        have e3 := tk_size (f.re tidyF) k
        have e4 := HTS.out
        omega
      have HX := Lib.hid hx
      have HO := Lib.hid hown
      have HGS := Lib.hid hgs
      have HB := Lib.hid hb
      have hsz := hb.size
      have hwx := hx.lt
      have p0 := cell_step hb HP.out.1
      have p1 := cell_step hb HP.out.2.1
      have p2 := cell_step hb HP.out.2.2
      clear hx hown hgs hb HX1 HO1 HB1
      by_cases hlt : k < f.len
      · rcases (HK.out.step HB.out) with h | ⟨b, o, rfl, hBb, hF⟩
        · rw [h] at hlt; exact absurd hlt (Nat.not_lt_zero _)
        obtain ⟨g1, g2, ai, ci, g3, g4⟩ := hF.get hlt
        have hs := f.k_size hlt
        have hxl : xs.length = (((f.re tidyF).tk k).spread (tQ l f.len)).len * 3 := by have := HO.out.1; omega
        have hrl : k < (f.re tidyF).len := by rw [HRL.out]; exact hlt
        obtain ⟨e1, e2, e3⟩ := HRE.out k hlt
        have HHIT := Lib.hid (show 0 < (tidyF (f.hAt k) (f.lAt k) ((f.kAt k).re tidyF)).2.2.len → tQ l f.len (tidyF (f.hAt k) (f.lAt k) ((f.kAt k).re tidyF)).2.1 (tidyF (f.hAt k) (f.lAt k) ((f.kAt k).re tidyF)).2.2.len = true → ((f.re tidyF).tk (k + 1)).spread (tQ l f.len) = (((f.re tidyF).tk k).spread (tQ l f.len)).app (tidyF (f.hAt k) (f.lAt k) ((f.kAt k).re tidyF)).2.2 from fun q1 q2 => by
          rw [← e3] at q1 q2
          rw [← e2] at q2
          rw [← e3]
          exact Fo.spread_hit _ _ hrl q1 q2)
        have HMISS := Lib.hid (show (decide (0 < (tidyF (f.hAt k) (f.lAt k) ((f.kAt k).re tidyF)).2.2.len) && tQ l f.len (tidyF (f.hAt k) (f.lAt k) ((f.kAt k).re tidyF)).2.1 (tidyF (f.hAt k) (f.lAt k) ((f.kAt k).re tidyF)).2.2.len) = false → ((f.re tidyF).tk (k + 1)).spread (tQ l f.len) = (((f.re tidyF).tk k).spread (tQ l f.len)).app (.cons (tidyF (f.hAt k) (f.lAt k) ((f.kAt k).re tidyF)).1 (tidyF (f.hAt k) (f.lAt k) ((f.kAt k).re tidyF)).2.1 (tidyF (f.hAt k) (f.lAt k) ((f.kAt k).re tidyF)).2.2 .nil) from fun q1 => by
          rw [← e1, ← e2, ← e3]
          rw [← e2, ← e3] at q1
          exact Fo.spread_miss _ _ hrl q1)
        have HGF := Lib.hid (Fo.form_get HF.out hlt)
        have HG4 := Lib.hid g4
        have hts : (tidyF (f.hAt k) (f.lAt k) ((f.kAt k).re tidyF)).2.2.len ≤ 1048576 := by
          have u1 := (tidyF (f.hAt k) (f.lAt k) ((f.kAt k).re tidyF)).2.2.len_le
          have u2 := tidyF_size (f.hAt k) (f.lAt k) ((f.kAt k).re tidyF)
          have u3 := tidy_size (f.kAt k)
          omega
        have hi0 : (k : Int) < (f.len : Int) := by omega
        clear g4 hF e1 e2 e3 hrl
        generalize f.hAt k = gh at *
        generalize f.lAt k = gl at *
        generalize f.kAt k = gk at *
        generalize ((f.re tidyF).tk k).spread (tQ l f.len) = gs at *
        go_wp2_with fail
        refine (HIH.out gk (by omega) (by omega) B b (o + k * 3) n gh gl ai ci wr HGF.out g1 g2 g3 HG4.out).mono ?_
        rintro e w8 ⟨⟨a8, c8, rfl, hk8⟩, hb8⟩
        have HK8 := Lib.hid hk8
        have h38 : wr.heap.size ≤ w8.heap.size := hb8.size
        have HB8 := Lib.hid (HB.out.trans (hb8.mono hsz))
        have HX8 := Lib.hid (HX.out.step hb8)
        have HO8 := Lib.hid (row_step HO.out hb8)
        have HG8 := Lib.hid (HGS.out.step hb8)
        have q1 := cell_step hb8 p1
        have q2 := cell_step hb8 p2
        have ql : pb < w8.heap.size := by omega
        clear hk8 hb8 p0 p1 p2 g1 g2 g3
        generalize (tidyF gh gl (gk.re tidyF)).1 = th at *
        generalize (tidyF gh gl (gk.re tidyF)).2.1 = tl at *
        generalize (tidyF gh gl (gk.re tidyF)).2.2 = tk at *
        by_cases hkp : 0 < tk.len
        case neg =>
          have HNO := Lib.hid (show (decide (0 < tk.len) && tQ l f.len tl tk.len) = false by simp [hkp])
          have hk0 : ¬ (0 : Int) < (tk.len : Int) := by omega
          go_wp2_with (at_builtin; refine wpList_append_own_at _ rfl _ _ 26 rfl (w.heap.size + 1) 28 i3 (.agg #[.int .i64 0, .int .i64 0, .slice none 0 0]) 3 40 Try.underlying26 ji jz0 jz1 jz2 rfl (by decide) (.slice xa gs.len xc) gs.len xs rfl (World.ownsRow.alloc (World.ownsRow.alloc HO8.out _) _) ⟨w8.heap.size + 1, 0, none⟩ 1 1 [.int .i64 th, .int .i64 tl, .slice a8 tk.len c8] rfl rfl (by have := news3 (w8.alloc (.cells #[.int .i64 th, .int .i64 tl, .slice a8 tk.len c8] 28)) (.int .i64 th) (.int .i64 tl) (.slice a8 tk.len c8) 28; simp only [World.size_alloc] at this; exact this) (by simp [Value.oneCell']) (by unfold maxLen; omega) (by omega) (by simp; omega) ?_; intro v' w9 hown9 hgrow9 _ hat9)
          obtain ⟨xa', xc', rfl⟩ := rowForm hown9
          have hgk := grow_kids (P := fun q => w.heap.size + 1 ≤ q) (World.ownsRow.alloc HO8.out (.cells #[.int .i64 th, .int .i64 tl, .slice a8 tk.len c8] 28)) hgrow9 hat9
          have hal := (Below.refl w8.heap.size w8).alloc (Nat.le_refl _) (.cells #[.int .i64 th, .int .i64 tl, .slice a8 tk.len c8] 28)
          have HG9 := Lib.hid (show GsAt w9 (fun q => w.heap.size + 1 ≤ q ∧ ∀ a, xa' = some a → q ≠ a.block) (gs.app (.cons th tl tk .nil)) (gs.app (.cons th tl tk .nil)).len (xs ++ [.int .i64 th, .int .i64 tl, .slice a8 tk.len c8]) from GsAt.app ((HG8.out.step hal).map hgk) hxl fun j hj => by
            obtain rfl : j = 0 := by simp [Fo.len] at hj; omega
            exact ⟨rfl, rfl, a8, c8, rfl, (HK8.out.step hal).map fun b o v q hc => hgk b o v ⟨by omega, fun a e => by have := (ownN_lt HO.out (b := a.block) (by rw [e]; rfl)).2; omega⟩ hc⟩)
          have hx9 := ((HX8.out.step hal).step ((Below.refl _ _).alloc (Nat.le_refl _) (.cells #[.int .i64 th, .int .i64 tl, .slice a8 tk.len c8] 28))).grownN hgrow9 (row_geN HO8.out (Nat.lt_succ_self _))
          have HB9 := Lib.hid (((HB8.out.alloc HB8.out.size (.cells #[.int .i64 th, .int .i64 tl, .slice a8 tk.len c8] 28)).alloc (by simp; omega) (.cells #[.int .i64 th, .int .i64 tl, .slice a8 tk.len c8] 28)).grown hgrow9 (by simp; omega) (fun q hq => by have := ownN_lt HO8.out hq; omega))
          have HSM := Lib.hid (HMISS.out HNO.out)
          have HLN := Lib.hid (show (gs.app (.cons th tl tk .nil)).len = gs.len + 1 from Fo.app_len _ _)
          clear hal
          have HX9 := Lib.hid hx9
          have HO9 := Lib.hid hown9
          clear hx9 hown9 hgrow9 hat9 hgk q1 q2 ql
          go_wp2_with fail
          go_roundw
          case rel => exact ⟨k + 1, xa', xc', xs ++ [.int .i64 th, .int .i64 tl, .slice a8 tk.len c8], by omega, by go_num, by rw [HSM.out, HLN.out], HX9.out, by rw [HSM.out, HLN.out]; exact HO9.out, by rw [HSM.out]; exact HG9.out, HB9.out⟩
          case measure => simp [intOf]; omega
        obtain ⟨kb, ko, ys, rfl, hy1, hy2, hy3, hy4⟩ := kids_list HK8.out hkp
        have HY1 := Lib.hid hy1
        have HY2 := Lib.hid hy2
        have HY3 := Lib.hid hy3
        have HY4 := Lib.hid hy4
        clear hy1 hy2 hy3 hy4
        have hk0 : (0 : Int) < (tk.len : Int) := by omega
        by_cases hq1 : l = 1
        · have r1 : (l == 1) = true := by simp [hq1]
          obtain rfl : ev = false := by rw [← HEV.out]; simp; omega
          by_cases hq2 : tl = 1
          · have r2 : (tl == 1) = true := by simp [hq2]
            have HPV := Lib.hid (show tQ l f.len tl tk.len = true by simp [tQ, hq1, hq2])
            clear hq1 hq2
            go_wp2_with (at_builtin; refine wpList_append_own_at _ rfl _ _ 26 rfl (w.heap.size + 1) 28 i3 (.agg #[.int .i64 0, .int .i64 0, .slice none 0 0]) 3 40 Try.underlying26 ji jz0 jz1 jz2 rfl (by decide) (.slice xa gs.len xc) gs.len xs rfl (World.ownsRow.alloc HO8.out _) ⟨kb, ko, none⟩ tk.len c8 ys rfl HY1.out (fun j u hj => cell_step ((Below.refl _ _).alloc (Nat.le_refl _) _) (HY3.out j u hj)) HY4.out (by unfold maxLen; omega) (by omega) (by simp; omega) ?_; intro v' w9 hown9 hgrow9 _ hat9)
            obtain ⟨xa', xc', rfl⟩ := rowForm hown9
            have hgk := grow_kids (P := fun q => w.heap.size + 1 ≤ q) HO8.out hgrow9 hat9
            have HG9 := Lib.hid (show GsAt w9 (fun q => w.heap.size + 1 ≤ q ∧ ∀ a, xa' = some a → q ≠ a.block) (gs.app tk) (gs.app tk).len (xs ++ ys) from GsAt.app (HG8.out.map hgk) hxl (HY2.out.map fun b o v q hc => hgk b o v ⟨by omega, fun a e => by have := (ownN_lt HO.out (b := a.block) (by rw [e]; rfl)).2; omega⟩ hc))
            have hx9 := (HX8.out.step ((Below.refl _ _).alloc (Nat.le_refl _) (.cells #[.int .i64 th, .int .i64 tl, .slice (some ⟨kb, ko, none⟩) tk.len c8] 28))).grownN hgrow9 (row_geN HO8.out (Nat.lt_succ_self _))
            have HB9 := Lib.hid ((HB8.out.alloc HB8.out.size (.cells #[.int .i64 th, .int .i64 tl, .slice (some ⟨kb, ko, none⟩) tk.len c8] 28)).grown hgrow9 (by simp; omega) (fun q hq => by have := ownN_lt HO8.out hq; omega))
            have HSM := Lib.hid (HHIT.out hkp HPV.out)
            have HLN := Lib.hid (show (gs.app tk).len = gs.len + tk.len from Fo.app_len _ _)
            have HX9 := Lib.hid hx9
            have HO9 := Lib.hid hown9
            clear hx9 hown9 hgrow9 hat9 hgk q1 q2 ql
            go_wp2_with fail
            go_roundw
            case rel => exact ⟨k + 1, xa', xc', xs ++ ys, by omega, by go_num, by rw [HSM.out, HLN.out], HX9.out, by rw [HSM.out, HLN.out]; exact HO9.out, by rw [HSM.out]; exact HG9.out, HB9.out⟩
            case measure => simp [intOf]; omega
          · have r2 : (tl == 1) = false := by simp [hq2]
            have HNO := Lib.hid (show (decide (0 < tk.len) && tQ l f.len tl tk.len) = false by
              have : (l == (f.len : Int)) = false := HEV.out
              unfold tQ; rw [this, r2]; simp)
            clear hq1 hq2
            go_wp2_with (at_builtin; refine wpList_append_own_at _ rfl _ _ 26 rfl (w.heap.size + 1) 28 i3 (.agg #[.int .i64 0, .int .i64 0, .slice none 0 0]) 3 40 Try.underlying26 ji jz0 jz1 jz2 rfl (by decide) (.slice xa gs.len xc) gs.len xs rfl (World.ownsRow.alloc (World.ownsRow.alloc HO8.out _) _) ⟨w8.heap.size + 1, 0, none⟩ 1 1 [.int .i64 th, .int .i64 tl, .slice (some ⟨kb, ko, none⟩) tk.len c8] rfl rfl (by have := news3 (w8.alloc (.cells #[.int .i64 th, .int .i64 tl, .slice (some ⟨kb, ko, none⟩) tk.len c8] 28)) (.int .i64 th) (.int .i64 tl) (.slice (some ⟨kb, ko, none⟩) tk.len c8) 28; simp only [World.size_alloc] at this; exact this) (by simp [Value.oneCell']) (by unfold maxLen; omega) (by omega) (by simp; omega) ?_; intro v' w9 hown9 hgrow9 _ hat9)
            obtain ⟨xa', xc', rfl⟩ := rowForm hown9
            have hgk := grow_kids (P := fun q => w.heap.size + 1 ≤ q) (World.ownsRow.alloc HO8.out (.cells #[.int .i64 th, .int .i64 tl, .slice (some ⟨kb, ko, none⟩) tk.len c8] 28)) hgrow9 hat9
            have hal := (Below.refl w8.heap.size w8).alloc (Nat.le_refl _) (.cells #[.int .i64 th, .int .i64 tl, .slice (some ⟨kb, ko, none⟩) tk.len c8] 28)
            have HG9 := Lib.hid (show GsAt w9 (fun q => w.heap.size + 1 ≤ q ∧ ∀ a, xa' = some a → q ≠ a.block) (gs.app (.cons th tl tk .nil)) (gs.app (.cons th tl tk .nil)).len (xs ++ [.int .i64 th, .int .i64 tl, .slice (some ⟨kb, ko, none⟩) tk.len c8]) from GsAt.app ((HG8.out.step hal).map hgk) hxl fun j hj => by
              obtain rfl : j = 0 := by simp [Fo.len] at hj; omega
              exact ⟨rfl, rfl, (some ⟨kb, ko, none⟩), c8, rfl, (HK8.out.step hal).map fun b o v q hc => hgk b o v ⟨by omega, fun a e => by have := (ownN_lt HO.out (b := a.block) (by rw [e]; rfl)).2; omega⟩ hc⟩)
            have hx9 := ((HX8.out.step hal).step ((Below.refl _ _).alloc (Nat.le_refl _) (.cells #[.int .i64 th, .int .i64 tl, .slice (some ⟨kb, ko, none⟩) tk.len c8] 28))).grownN hgrow9 (row_geN HO8.out (Nat.lt_succ_self _))
            have HB9 := Lib.hid (((HB8.out.alloc HB8.out.size (.cells #[.int .i64 th, .int .i64 tl, .slice (some ⟨kb, ko, none⟩) tk.len c8] 28)).alloc (by simp; omega) (.cells #[.int .i64 th, .int .i64 tl, .slice (some ⟨kb, ko, none⟩) tk.len c8] 28)).grown hgrow9 (by simp; omega) (fun q hq => by have := ownN_lt HO8.out hq; omega))
            have HSM := Lib.hid (HMISS.out HNO.out)
            have HLN := Lib.hid (show (gs.app (.cons th tl tk .nil)).len = gs.len + 1 from Fo.app_len _ _)
            clear hal
            have HX9 := Lib.hid hx9
            have HO9 := Lib.hid hown9
            clear hx9 hown9 hgrow9 hat9 hgk q1 q2 ql
            go_wp2_with fail
            go_roundw
            case rel => exact ⟨k + 1, xa', xc', xs ++ [.int .i64 th, .int .i64 tl, .slice (some ⟨kb, ko, none⟩) tk.len c8], by omega, by go_num, by rw [HSM.out, HLN.out], HX9.out, by rw [HSM.out, HLN.out]; exact HO9.out, by rw [HSM.out]; exact HG9.out, HB9.out⟩
            case measure => simp [intOf]; omega
        · have r1 : (l == 1) = false := by simp [hq1]
          cases ev with
          | true =>
          by_cases hq2 : tl = (tk.len : Int)
          · have r2 : (tl == (tk.len : Int)) = true := by simp [hq2]
            have HPV := Lib.hid (show tQ l f.len tl tk.len = true by unfold tQ; rw [HEV.out, r1, r2]; rfl)
            clear hq1 hq2
            go_wp2_with (at_builtin; refine wpList_append_own_at _ rfl _ _ 26 rfl (w.heap.size + 1) 28 i3 (.agg #[.int .i64 0, .int .i64 0, .slice none 0 0]) 3 40 Try.underlying26 ji jz0 jz1 jz2 rfl (by decide) (.slice xa gs.len xc) gs.len xs rfl (World.ownsRow.alloc HO8.out _) ⟨kb, ko, none⟩ tk.len c8 ys rfl HY1.out (fun j u hj => cell_step ((Below.refl _ _).alloc (Nat.le_refl _) _) (HY3.out j u hj)) HY4.out (by unfold maxLen; omega) (by omega) (by simp; omega) ?_; intro v' w9 hown9 hgrow9 _ hat9)
            obtain ⟨xa', xc', rfl⟩ := rowForm hown9
            have hgk := grow_kids (P := fun q => w.heap.size + 1 ≤ q) HO8.out hgrow9 hat9
            have HG9 := Lib.hid (show GsAt w9 (fun q => w.heap.size + 1 ≤ q ∧ ∀ a, xa' = some a → q ≠ a.block) (gs.app tk) (gs.app tk).len (xs ++ ys) from GsAt.app (HG8.out.map hgk) hxl (HY2.out.map fun b o v q hc => hgk b o v ⟨by omega, fun a e => by have := (ownN_lt HO.out (b := a.block) (by rw [e]; rfl)).2; omega⟩ hc))
            have hx9 := (HX8.out.step ((Below.refl _ _).alloc (Nat.le_refl _) (.cells #[.int .i64 th, .int .i64 tl, .slice (some ⟨kb, ko, none⟩) tk.len c8] 28))).grownN hgrow9 (row_geN HO8.out (Nat.lt_succ_self _))
            have HB9 := Lib.hid ((HB8.out.alloc HB8.out.size (.cells #[.int .i64 th, .int .i64 tl, .slice (some ⟨kb, ko, none⟩) tk.len c8] 28)).grown hgrow9 (by simp; omega) (fun q hq => by have := ownN_lt HO8.out hq; omega))
            have HSM := Lib.hid (HHIT.out hkp HPV.out)
            have HLN := Lib.hid (show (gs.app tk).len = gs.len + tk.len from Fo.app_len _ _)
            have HX9 := Lib.hid hx9
            have HO9 := Lib.hid hown9
            clear hx9 hown9 hgrow9 hat9 hgk q1 q2 ql
            go_wp2_with fail
            go_roundw
            case rel => exact ⟨k + 1, xa', xc', xs ++ ys, by omega, by go_num, by rw [HSM.out, HLN.out], HX9.out, by rw [HSM.out, HLN.out]; exact HO9.out, by rw [HSM.out]; exact HG9.out, HB9.out⟩
            case measure => simp [intOf]; omega
          · have r2 : (tl == (tk.len : Int)) = false := by simp [hq2]
            have HNO := Lib.hid (show (decide (0 < tk.len) && tQ l f.len tl tk.len) = false by unfold tQ; rw [HEV.out, r1, r2]; simp)
            clear hq1 hq2
            go_wp2_with (at_builtin; refine wpList_append_own_at _ rfl _ _ 26 rfl (w.heap.size + 1) 28 i3 (.agg #[.int .i64 0, .int .i64 0, .slice none 0 0]) 3 40 Try.underlying26 ji jz0 jz1 jz2 rfl (by decide) (.slice xa gs.len xc) gs.len xs rfl (World.ownsRow.alloc (World.ownsRow.alloc HO8.out _) _) ⟨w8.heap.size + 1, 0, none⟩ 1 1 [.int .i64 th, .int .i64 tl, .slice (some ⟨kb, ko, none⟩) tk.len c8] rfl rfl (by have := news3 (w8.alloc (.cells #[.int .i64 th, .int .i64 tl, .slice (some ⟨kb, ko, none⟩) tk.len c8] 28)) (.int .i64 th) (.int .i64 tl) (.slice (some ⟨kb, ko, none⟩) tk.len c8) 28; simp only [World.size_alloc] at this; exact this) (by simp [Value.oneCell']) (by unfold maxLen; omega) (by omega) (by simp; omega) ?_; intro v' w9 hown9 hgrow9 _ hat9)
            obtain ⟨xa', xc', rfl⟩ := rowForm hown9
            have hgk := grow_kids (P := fun q => w.heap.size + 1 ≤ q) (World.ownsRow.alloc HO8.out (.cells #[.int .i64 th, .int .i64 tl, .slice (some ⟨kb, ko, none⟩) tk.len c8] 28)) hgrow9 hat9
            have hal := (Below.refl w8.heap.size w8).alloc (Nat.le_refl _) (.cells #[.int .i64 th, .int .i64 tl, .slice (some ⟨kb, ko, none⟩) tk.len c8] 28)
            have HG9 := Lib.hid (show GsAt w9 (fun q => w.heap.size + 1 ≤ q ∧ ∀ a, xa' = some a → q ≠ a.block) (gs.app (.cons th tl tk .nil)) (gs.app (.cons th tl tk .nil)).len (xs ++ [.int .i64 th, .int .i64 tl, .slice (some ⟨kb, ko, none⟩) tk.len c8]) from GsAt.app ((HG8.out.step hal).map hgk) hxl fun j hj => by
              obtain rfl : j = 0 := by simp [Fo.len] at hj; omega
              exact ⟨rfl, rfl, (some ⟨kb, ko, none⟩), c8, rfl, (HK8.out.step hal).map fun b o v q hc => hgk b o v ⟨by omega, fun a e => by have := (ownN_lt HO.out (b := a.block) (by rw [e]; rfl)).2; omega⟩ hc⟩)
            have hx9 := ((HX8.out.step hal).step ((Below.refl _ _).alloc (Nat.le_refl _) (.cells #[.int .i64 th, .int .i64 tl, .slice (some ⟨kb, ko, none⟩) tk.len c8] 28))).grownN hgrow9 (row_geN HO8.out (Nat.lt_succ_self _))
            have HB9 := Lib.hid (((HB8.out.alloc HB8.out.size (.cells #[.int .i64 th, .int .i64 tl, .slice (some ⟨kb, ko, none⟩) tk.len c8] 28)).alloc (by simp; omega) (.cells #[.int .i64 th, .int .i64 tl, .slice (some ⟨kb, ko, none⟩) tk.len c8] 28)).grown hgrow9 (by simp; omega) (fun q hq => by have := ownN_lt HO8.out hq; omega))
            have HSM := Lib.hid (HMISS.out HNO.out)
            have HLN := Lib.hid (show (gs.app (.cons th tl tk .nil)).len = gs.len + 1 from Fo.app_len _ _)
            clear hal
            have HX9 := Lib.hid hx9
            have HO9 := Lib.hid hown9
            clear hx9 hown9 hgrow9 hat9 hgk q1 q2 ql
            go_wp2_with fail
            go_roundw
            case rel => exact ⟨k + 1, xa', xc', xs ++ [.int .i64 th, .int .i64 tl, .slice (some ⟨kb, ko, none⟩) tk.len c8], by omega, by go_num, by rw [HSM.out, HLN.out], HX9.out, by rw [HSM.out, HLN.out]; exact HO9.out, by rw [HSM.out]; exact HG9.out, HB9.out⟩
            case measure => simp [intOf]; omega
          | false =>
          have HNO := Lib.hid (show (decide (0 < tk.len) && tQ l f.len tl tk.len) = false by unfold tQ; rw [HEV.out, r1]; simp)
          clear hq1
          go_wp2_with (at_builtin; refine wpList_append_own_at _ rfl _ _ 26 rfl (w.heap.size + 1) 28 i3 (.agg #[.int .i64 0, .int .i64 0, .slice none 0 0]) 3 40 Try.underlying26 ji jz0 jz1 jz2 rfl (by decide) (.slice xa gs.len xc) gs.len xs rfl (World.ownsRow.alloc (World.ownsRow.alloc HO8.out _) _) ⟨w8.heap.size + 1, 0, none⟩ 1 1 [.int .i64 th, .int .i64 tl, .slice (some ⟨kb, ko, none⟩) tk.len c8] rfl rfl (by have := news3 (w8.alloc (.cells #[.int .i64 th, .int .i64 tl, .slice (some ⟨kb, ko, none⟩) tk.len c8] 28)) (.int .i64 th) (.int .i64 tl) (.slice (some ⟨kb, ko, none⟩) tk.len c8) 28; simp only [World.size_alloc] at this; exact this) (by simp [Value.oneCell']) (by unfold maxLen; omega) (by omega) (by simp; omega) ?_; intro v' w9 hown9 hgrow9 _ hat9)
          obtain ⟨xa', xc', rfl⟩ := rowForm hown9
          have hgk := grow_kids (P := fun q => w.heap.size + 1 ≤ q) (World.ownsRow.alloc HO8.out (.cells #[.int .i64 th, .int .i64 tl, .slice (some ⟨kb, ko, none⟩) tk.len c8] 28)) hgrow9 hat9
          have hal := (Below.refl w8.heap.size w8).alloc (Nat.le_refl _) (.cells #[.int .i64 th, .int .i64 tl, .slice (some ⟨kb, ko, none⟩) tk.len c8] 28)
          have HG9 := Lib.hid (show GsAt w9 (fun q => w.heap.size + 1 ≤ q ∧ ∀ a, xa' = some a → q ≠ a.block) (gs.app (.cons th tl tk .nil)) (gs.app (.cons th tl tk .nil)).len (xs ++ [.int .i64 th, .int .i64 tl, .slice (some ⟨kb, ko, none⟩) tk.len c8]) from GsAt.app ((HG8.out.step hal).map hgk) hxl fun j hj => by
            obtain rfl : j = 0 := by simp [Fo.len] at hj; omega
            exact ⟨rfl, rfl, (some ⟨kb, ko, none⟩), c8, rfl, (HK8.out.step hal).map fun b o v q hc => hgk b o v ⟨by omega, fun a e => by have := (ownN_lt HO.out (b := a.block) (by rw [e]; rfl)).2; omega⟩ hc⟩)
          have hx9 := ((HX8.out.step hal).step ((Below.refl _ _).alloc (Nat.le_refl _) (.cells #[.int .i64 th, .int .i64 tl, .slice (some ⟨kb, ko, none⟩) tk.len c8] 28))).grownN hgrow9 (row_geN HO8.out (Nat.lt_succ_self _))
          have HB9 := Lib.hid (((HB8.out.alloc HB8.out.size (.cells #[.int .i64 th, .int .i64 tl, .slice (some ⟨kb, ko, none⟩) tk.len c8] 28)).alloc (by simp; omega) (.cells #[.int .i64 th, .int .i64 tl, .slice (some ⟨kb, ko, none⟩) tk.len c8] 28)).grown hgrow9 (by simp; omega) (fun q hq => by have := ownN_lt HO8.out hq; omega))
          have HSM := Lib.hid (HMISS.out HNO.out)
          have HLN := Lib.hid (show (gs.app (.cons th tl tk .nil)).len = gs.len + 1 from Fo.app_len _ _)
          clear hal
          have HX9 := Lib.hid hx9
          have HO9 := Lib.hid hown9
          clear hx9 hown9 hgrow9 hat9 hgk q1 q2 ql
          go_wp2_with fail
          go_roundw
          case rel => exact ⟨k + 1, xa', xc', xs ++ [.int .i64 th, .int .i64 tl, .slice (some ⟨kb, ko, none⟩) tk.len c8], by omega, by go_num, by rw [HSM.out, HLN.out], HX9.out, by rw [HSM.out, HLN.out]; exact HO9.out, by rw [HSM.out]; exact HG9.out, HB9.out⟩
          case measure => simp [intOf]; omega
      · have HE := Lib.hid (show k = f.len by omega)
        have HGE := Lib.hid (show ((f.re tidyF).spread (tQ l f.len)).len = (((f.re tidyF).tk k).spread (tQ l f.len)).len by rw [HE.out, ← HRL.out, Fo.tk_len])
        have HFN := Lib.hid (show KidsQ wr (w.heap.size + 1 ≤ ·) xa ((f.re tidyF).spread (tQ l f.len)) from by
          have ho := HO.out
          have hg := HGS.out
          rw [HE.out, ← HRL.out, Fo.tk_len, HRL.out] at ho hg
          rcases ho.2 with ⟨hv, h0⟩ | ⟨g, cap, cur, hv, hgb, _⟩
          · have := HSP.out; omega
          · cases hv
            refine .inr ⟨g, 0, rfl, hgb, QAt.of fun i hi => ?_⟩
            obtain ⟨h1, h2, a2, c2, h3, h4⟩ := hg i hi
            rw [Nat.zero_add]
            exact ⟨by rw [World.ownsRow.cellAt ho _ (by omega)]; exact h1, by rw [World.ownsRow.cellAt ho _ (by omega)]; exact h2, a2, c2, by rw [World.ownsRow.cellAt ho _ (by omega)]; exact h3, h4.map fun b o v q hc => ⟨q.1, hc⟩⟩)
        cases ev with
        | true =>
          have HLL := Lib.hid (show l = (f.len : Int) by have := HEV.out; simpa using this)
          go_wp2_with fail
          refine (l02Gate_any (((((f.re tidyF).tk k).spread (tQ l f.len)).len : Nat) : Int) xa (((f.re tidyF).tk k).spread (tQ l f.len)).len xc _).mono ?_
          rintro e w9 ⟨rfl, hb9⟩
          have hx9 := HX.out.step hb9
          have x0 := hx9.g0
          have x1 := hx9.g1
          have x2 := hx9.g2
          have f0 := hx9.gf 0
          have f1 := hx9.gf 1
          have f2 := hx9.gf 2
          have xl := hx9.lt
          have HFN9 := Lib.hid (HFN.out.step hb9)
          have HB9 := Lib.hid (HB.out.trans (hb9.mono hsz))
          clear hb9 hx9 p0 p1 p2
          go_wp2_with fail
          refine bodyPost_ret (v := .agg #[.int .i64 (-1), .int .i64 (((((f.re tidyF).tk k).spread (tQ l f.len)).len : Nat) : Int), .slice xa (((f.re tidyF).tk k).spread (tQ l f.len)).len xc]) (by simp [results, Try.results36, go_sem, x0, x1, x2]) rfl ⟨⟨xa, xc, ?_, ?_⟩, ?_⟩
          · rw [HT.out]
            simp only []
            rw [HGE.out, if_pos HLL.out]
          · rw [HT.out]
            exact HFN9.out.map fun b o v (q : w.heap.size + 1 ≤ b) hc => ⟨by show w.heap.size ≤ b; omega, by
              rw [World.cell?_of_block (Below.heap_setCell _ _ _ b (fun e => by simp at e; omega)), World.cell?_of_block (Below.heap_setCell _ _ _ b (fun e => by simp at e; omega)), World.cell?_of_block (Below.heap_setCell _ _ _ b (fun e => by simp at e; omega))]
              exact hc⟩
          · exact ((HB9.out.setCell (p := ⟨w.heap.size, 0, none⟩) (Nat.le_refl _) _).setCell (p := ⟨w.heap.size, 1, none⟩) (Nat.le_refl _) _).setCell (p := ⟨w.heap.size, 2, none⟩) (Nat.le_refl _) _
        | false =>
          have HLL := Lib.hid (show ¬ l = (f.len : Int) by have := HEV.out; simpa using this)
          go_wp2_with fail
          refine (l02Gate_any l xa (((f.re tidyF).tk k).spread (tQ l f.len)).len xc _).mono ?_
          rintro e w9 ⟨rfl, hb9⟩
          have hx9 := HX.out.step hb9
          have x0 := hx9.g0
          have x1 := hx9.g1
          have x2 := hx9.g2
          have f0 := hx9.gf 0
          have f1 := hx9.gf 1
          have f2 := hx9.gf 2
          have xl := hx9.lt
          have HFN9 := Lib.hid (HFN.out.step hb9)
          have HB9 := Lib.hid (HB.out.trans (hb9.mono hsz))
          clear hb9 hx9 p0 p1 p2
          go_wp2_with fail
          refine bodyPost_ret (v := .agg #[.int .i64 (-1), .int .i64 l, .slice xa (((f.re tidyF).tk k).spread (tQ l f.len)).len xc]) (by simp [results, Try.results36, go_sem, x0, x1, x2]) rfl ⟨⟨xa, xc, ?_, ?_⟩, ?_⟩
          · rw [HT.out]
            simp only []
            rw [HGE.out, if_neg HLL.out]
          · rw [HT.out]
            exact HFN9.out.map fun b o v (q : w.heap.size + 1 ≤ b) hc => ⟨by show w.heap.size ≤ b; omega, by
              rw [World.cell?_of_block (Below.heap_setCell _ _ _ b (fun e => by simp at e; omega)), World.cell?_of_block (Below.heap_setCell _ _ _ b (fun e => by simp at e; omega)), World.cell?_of_block (Below.heap_setCell _ _ _ b (fun e => by simp at e; omega))]
              exact hc⟩
          · exact ((HB9.out.setCell (p := ⟨w.heap.size, 0, none⟩) (Nat.le_refl _) _).setCell (p := ⟨w.heap.size, 1, none⟩) (Nat.le_refl _) _).setCell (p := ⟨w.heap.size, 2, none⟩) (Nat.le_refl _) _
end Go.Proofs.Ytjhggglaglpgfaa
