/- Gates that the model makes: rows of gates that grow; l02Leaf, l02Gate, l02Dual. -/
import Derived.Test.YtjhggglaglpgfaaLv
import Derived.Test.YtjhggglaglpgfaaRb
namespace Go.Proofs.Ytjhggglaglpgfaa
open Go.RowKit Go.Deep
set_option linter.unusedVariables false

theorem QAt.of {W : World} {ok : Nat → Prop} {f : Fo} {b o : Nat} (h : ∀ i, i < f.len → W.cell? ⟨b, o + i * 3, none⟩ = some (.int .i64 (f.hAt i)) ∧ W.cell? ⟨b, o + i * 3 + 1, none⟩ = some (.int .i64 (f.lAt i)) ∧
      ∃ (a : Option Addr) (c : Nat), W.cell? ⟨b, o + i * 3 + 2, none⟩ = some (.slice a (f.kAt i).len c) ∧ KidsQ W ok a (f.kAt i)) : QAt W ok f b o := by
  induction f generalizing o with
  | nil => trivial
  | cons x l k r _ ih =>
    have h0 := h 0 (by simp [Fo.len])
    simp only [Nat.zero_mul, Nat.add_zero, Fo.hAt, Fo.lAt, Fo.kAt] at h0
    refine ⟨h0.1, h0.2.1, h0.2.2, ih fun i hi => ?_⟩
    have := h (i + 1) (by simp [Fo.len]; omega)
    rw [show o + (i + 1) * 3 = o + 3 + i * 3 by omega] at this
    exact this
theorem QAt.map {W W' : World} {ok ok' : Nat → Prop} (hk : ∀ b o v, ok b → W.cell? ⟨b, o, none⟩ = some v → ok' b ∧ W'.cell? ⟨b, o, none⟩ = some v) {f : Fo} {b o : Nat} (h : QAt W ok f b o) (hb : ok b) : QAt W' ok' f b o := by
  induction f generalizing b o with
  | nil => trivial
  | cons x l k r ihk ihr =>
    obtain ⟨h1, h2, ⟨a, c, h3, h4⟩, h5⟩ := h
    refine ⟨(hk _ _ _ hb h1).2, (hk _ _ _ hb h2).2, ⟨a, c, (hk _ _ _ hb h3).2, ?_⟩, ihr h5 hb⟩
    rcases h4 with h4 | ⟨b', o', e, hb', h6⟩
    · exact .inl h4
    · refine (Classical.em (k = .nil)).elim .inl fun hn => .inr ⟨b', o', e, ?_, ihk h6 hb'⟩
      cases k with
      | nil => exact absurd rfl hn
      | cons y m k2 r2 => exact (hk _ _ _ hb' h6.1).1
theorem KidsQ.map {W W' : World} {ok ok' : Nat → Prop} (hk : ∀ b o v, ok b → W.cell? ⟨b, o, none⟩ = some v → ok' b ∧ W'.cell? ⟨b, o, none⟩ = some v) {a : Option Addr} {f : Fo} (h : KidsQ W ok a f) : KidsQ W' ok' a f := by
  rcases h with h | ⟨b, o, e, hb, h⟩
  · exact .inl h
  · refine (Classical.em (f = .nil)).elim .inl fun hn => .inr ⟨b, o, e, ?_, h.map hk hb⟩
    cases f with
    | nil => exact absurd rfl hn
    | cons y m k2 r2 => exact (hk _ _ _ hb h.1).1
theorem KidsQ.step {W W' : World} {ok : Nat → Prop} {a : Option Addr} {f : Fo} (h : KidsQ W ok a f) (hb : Below W.heap.size W W') : KidsQ W' ok a f := h.map fun b o u q hc => ⟨q, cell_step hb hc⟩
theorem KidsQ.kids {W : World} {ok : Nat → Prop} {a : Option Addr} {f : Fo} (h : KidsQ W ok a f) : Kids W 0 a f := by
  have key : ∀ (f : Fo) (b o : Nat), QAt W ok f b o → FAt W 0 f b o := by
    intro f
    induction f with
    | nil => exact fun _ _ _ => trivial
    | cons x l k r ihk ihr =>
      intro b o ⟨h1, h2, ⟨a, c, h3, h4⟩, h5⟩
      refine ⟨h1, h2, ⟨a, c, h3, ?_⟩, ihr _ _ h5⟩
      rcases h4 with h4 | ⟨b', o', e, hb', h6⟩
      · exact .inl h4
      · exact .inr ⟨b', o', e, Nat.zero_le _, ihk _ _ h6⟩
  rcases h with h | ⟨b, o, e, hb, h⟩
  · exact .inl h
  · exact .inr ⟨b, o, e, Nat.zero_le _, key _ _ _ h⟩
/-- The cells of a row of gates, and what is behind them. -/
def GsAt (W : World) (ok : Nat → Prop) (f : Fo) (n : Nat) (xs : List Value) : Prop := ∀ j, j < n → xs[j * 3]? = some (.int .i64 (f.hAt j)) ∧ xs[j * 3 + 1]? = some (.int .i64 (f.lAt j)) ∧ ∃ (a : Option Addr) (c : Nat), xs[j * 3 + 2]? = some (.slice a (f.kAt j).len c) ∧ KidsQ W ok a (f.kAt j)
theorem GsAt.map {W W' : World} {ok ok' : Nat → Prop} (hk : ∀ b o v, ok b → W.cell? ⟨b, o, none⟩ = some v → ok' b ∧ W'.cell? ⟨b, o, none⟩ = some v) {f : Fo} {n : Nat} {xs : List Value} (h : GsAt W ok f n xs) : GsAt W' ok' f n xs := fun j hj => by
  obtain ⟨h1, h2, a, c, h3, h4⟩ := h j hj
  exact ⟨h1, h2, a, c, h3, h4.map hk⟩
theorem GsAt.step {W W' : World} {ok : Nat → Prop} {f : Fo} {n : Nat} {xs : List Value} (h : GsAt W ok f n xs) (hb : Below W.heap.size W W') : GsAt W' ok f n xs := h.map fun b o u q hc => ⟨q, cell_step hb hc⟩
theorem GsAt.snoc {W : World} {ok : Nat → Prop} {f : Fo} {n : Nat} {xs : List Value} {a : Option Addr} {c : Nat} (h : GsAt W ok f n xs) (hl : xs.length = n * 3) (hk : KidsQ W ok a (f.kAt n)) : GsAt W ok f (n + 1) (xs ++ [.int .i64 (f.hAt n), .int .i64 (f.lAt n), .slice a (f.kAt n).len c]) := by
  intro j hj
  by_cases e : j = n
  · subst e
    refine ⟨?_, ?_, a, c, ?_, hk⟩
    · rw [List.getElem?_append_right (by omega), hl, Nat.sub_self]; rfl
    · rw [List.getElem?_append_right (by omega), hl, show j * 3 + 1 - j * 3 = 1 by omega]; rfl
    · rw [List.getElem?_append_right (by omega), hl, show j * 3 + 2 - j * 3 = 2 by omega]; rfl
  · obtain ⟨h1, h2, a2, c2, h3, h4⟩ := h j (by omega)
    exact ⟨by rw [List.getElem?_append_left (by omega)]; exact h1, by rw [List.getElem?_append_left (by omega)]; exact h2, a2, c2, by rw [List.getElem?_append_left (by omega)]; exact h3, h4⟩
/-- Behind an append of a gate: the own block may have moved, the kids' ones are kept. -/
theorem grow_kids {w8 w9 : World} {S k n3 : Nat} {xa xa' : Option Addr} {xc xc' n' : Nat} {t : TypeId} {xs : List Value} {cs : Array Value} {u : TypeId} (ho : w8.ownsRow S t n3 (.slice xa k xc) k xs) (hg : (w8.alloc (.cells cs u)).grownBy w9 (Value.slice xa k xc).ownBlock)
    (hat : (Value.slice xa' n' xc').ownBlock = (Value.slice xa k xc).ownBlock ∨ (Value.slice xa' n' xc').ownBlock = some (w8.alloc (.cells cs u)).heap.size) {P : Nat → Prop} :
    ∀ b o v, (P b ∧ ∀ a, xa = some a → b ≠ a.block) → w8.cell? ⟨b, o, none⟩ = some v → (P b ∧ ∀ a, xa' = some a → b ≠ a.block) ∧ w9.cell? ⟨b, o, none⟩ = some v := by
  intro b o v q hc
  have hbl := World.block_lt_of_cell? _ _ hc
  simp only at hbl
  refine ⟨⟨q.1, fun a e => ?_⟩, cell_grownN hg (fun e => ?_) (cell_step ((Below.refl _ _).alloc (Nat.le_refl _) _) hc)⟩
  · subst e
    rcases hat with h | h
    · cases xa with
      | none => simp [Value.ownBlock] at h
      | some a2 => simp [Value.ownBlock] at h; rw [h]; exact q.2 a2 rfl
    · simp [Value.ownBlock] at h; omega
  · cases xa with
    | none => simp [Value.ownBlock] at e
    | some a2 => simp [Value.ownBlock] at e; exact q.2 a2 rfl e.symm

set_option maxRecDepth 100000 in
theorem l02Leaf_any (h : Int) (w : World) : Calls Try.prog 43 #[.int .i64 h] w fun e w' => e = .returned (.agg #[.int .i64 h, .int .i64 0, .slice none 0 0]) ∧ Below w.heap.size w w' := by
  go_enter Try.func43, Try.ntmps43
  go_wp2_with fail
  refine bodyPost_ret (v := .agg #[.int .i64 h, .int .i64 0, .slice none 0 0]) (by simp [results, Try.results43, go_sem]) rfl ⟨rfl, ?_⟩
  go_grown
set_option maxRecDepth 100000 in
theorem l02Gate_any (l : Int) (a : Option Addr) (n c : Nat) (w : World) : Calls Try.prog 44 #[.int .i64 l, .slice a n c] w fun e w' => e = .returned (.agg #[.int .i64 (-1), .int .i64 l, .slice a n c]) ∧ Below w.heap.size w w' := by
  go_enter Try.func44, Try.ntmps44
  go_wp2_with fail
  refine bodyPost_ret (v := .agg #[.int .i64 (-1), .int .i64 l, .slice a n c]) (by simp [results, Try.results44, go_sem]) rfl ⟨rfl, ?_⟩
  go_grown

/-- The dual of a node whose kids are dual already. -/
def dualF (h l : Int) (k : Fo) : Int × Int × Fo := (h, if k.len = 0 then l else (k.len : Int) - l + 1, k)
theorem dual_size : ∀ f : Fo, (f.re dualF).size = f.size
  | .nil => rfl
  | .cons h l k r => by simp only [Fo.re, Fo.size, dualF, dual_size k, dual_size r]
theorem dual_forms (n : Int) : Forms n dualF := fun h l k hg => by
  rcases hg with ⟨h1, h2⟩ | ⟨h1, h2, h3, h4, h5⟩
  · exact .inl ⟨h1, by simp [dualF, h1]; exact h2⟩
  · refine .inr ⟨h1, h2, ?_, ?_, h5⟩ <;> simp only [dualF] <;> rw [if_neg (by omega)] <;> omega

set_option maxRecDepth 100000 in
set_option maxHeartbeats 4000000 in
theorem l02Dual_any : ∀ (m : Nat) (f : Fo), f.size < m → m ≤ 1048577 → ∀ (B pb po : Nat) (n h l : Int) (a : Option Addr) (c : Nat) (w : World), Fo.gform n h l f →
    w.cell? ⟨pb, po, none⟩ = some (.int .i64 h) → w.cell? ⟨pb, po + 1, none⟩ = some (.int .i64 l) → w.cell? ⟨pb, po + 2, none⟩ = some (.slice a f.len c) → Kids w B a f →
    Calls Try.prog 28 #[.pointer (some ⟨pb, po, none⟩)] w fun e w' => (∃ a' c', e = .returned (.agg #[.int .i64 (dualF h l (f.re dualF)).1, .int .i64 (dualF h l (f.re dualF)).2.1, .slice a' (f.re dualF).len c']) ∧ KidsQ w' (w.heap.size ≤ ·) a' (f.re dualF)) ∧ Below w.heap.size w w' := by
  intro m
  induction m with
  | zero => exact fun f hf => absurd hf (Nat.not_lt_zero _)
  | succ m ih =>
    intro f hf hm B pb po n h l a c w hg p0 p1 p2 hk
    have hlen := f.len_le
    have hpb : pb < w.heap.size := World.block_lt_of_cell? _ _ p2
    by_cases hz : f.len = 0
    · have hzn := Fo.len_zero hz
      subst hzn
      clear hz
      obtain ⟨g0, g1, g2⟩ := gform_nil.1 hg
      subst g0
      have p3 : w.cell? ⟨pb, po + 2, none⟩ = some (.slice a 0 c) := p2
      clear ih hg p2
      go_enter Try.func28, Try.ntmps28
      go_wp2_with fail
      refine (l02Leaf_any h _).mono ?_
      have hb := (Below.refl w.heap.size w).alloc (Nat.le_refl _) (.cells #[.int .i64 0, .int .i64 0, .slice none 0 0] 28)
      have hx : Boxes (w.alloc (.cells #[.int .i64 0, .int .i64 0, .slice none 0 0] 28)) w.heap.size 28 #[.int .i64 0, .int .i64 0, .slice none 0 0] := World.alloc_heap_new _ _
      generalize w.alloc (.cells #[.int .i64 0, .int .i64 0, .slice none 0 0] 28) = w1 at *
      rintro e w2 ⟨rfl, hb2⟩
      have hx2 := hx.step hb2
      have x0 := hx2.g0
      have x1 := hx2.g1
      have x2 := hx2.g2
      have f0 := hx2.gf 0
      have f1 := hx2.gf 1
      have f2 := hx2.gf 2
      have xl := hx2.lt
      have HB := Lib.hid (hb.trans (hb2.mono hb.size))
      clear hb2 hx hb hx2
      go_wp2_with fail
      refine bodyPost_ret (v := .agg #[.int .i64 h, .int .i64 0, .slice none 0 0]) (by simp [results, Try.results28, go_sem, x0, x1, x2]) rfl ⟨⟨none, 0, rfl, .inl rfl⟩, ?_⟩
      exact ((HB.out.setCell (p := ⟨w.heap.size, 0, none⟩) (Nat.le_refl _) _).setCell (p := ⟨w.heap.size, 1, none⟩) (Nat.le_refl _) _).setCell (p := ⟨w.heap.size, 2, none⟩) (Nat.le_refl _) _
    have hpos : 0 < f.len := by omega
    have s0 : (f.len == 0) = false := by simp; omega
    have s1 : ((f.len : Int) == 0) = false := by simp; omega
    obtain ⟨rfl, hl1, hl2, hfo⟩ := (gform_some hpos).1 hg
    have HIH := Lib.hid ih
    have HK := Lib.hid hk
    have HF := Lib.hid hfo
    have HP := Lib.hid (And.intro p0 (And.intro p1 p2))
    have HRL := Lib.hid (Fo.re_len dualF f)
    have HRE := Lib.hid (fun i (hi : i < f.len) => Fo.re_get dualF f hi)
    have HPOS := Lib.hid hpos
    obtain ⟨i3, ji, jz0, jz1, jz2⟩ := info_parts Try.infoGate
    clear ih hk hg hfo hz
    go_enter Try.func28, Try.ntmps28
    go_wp2_with fail
    have hb1 := ((Below.refl w.heap.size w).alloc (Nat.le_refl _) (.cells #[.int .i64 0, .int .i64 0, .slice none 0 0] 28)).alloc (by simp) (.cells #[] 28)
    have hx1 : Boxes ((w.alloc (.cells #[.int .i64 0, .int .i64 0, .slice none 0 0] 28)).alloc (.cells #[] 28)) w.heap.size 28 #[.int .i64 0, .int .i64 0, .slice none 0 0] := Boxes.step (World.alloc_heap_new w _) ((Below.refl _ _).alloc (Nat.le_refl _) (.cells #[] 28))
    have ho1 : ((w.alloc (.cells #[.int .i64 0, .int .i64 0, .slice none 0 0] 28)).alloc (.cells #[] 28)).ownsRow (w.heap.size + 1) 28 3 (.slice (some ⟨w.heap.size + 1, 0, none⟩) 0 0) 0 [] := by
      refine ⟨rfl, .inr ⟨w.heap.size + 1, 0, #[], rfl, Nat.le_refl _, ?_, Nat.le_refl _, by unfold maxLen; omega, rfl, rfl⟩⟩
      have := World.alloc_heap_new (w.alloc (.cells #[.int .i64 0, .int .i64 0, .slice none 0 0] 28)) (.cells #[] 28)
      simp only [World.size_alloc] at this
      exact this
    generalize (w.alloc (.cells #[.int .i64 0, .int .i64 0, .slice none 0 0] 28)).alloc (.cells #[] 28) = w1 at *
    have HB1 := Lib.hid hb1
    have HX1 := Lib.hid hx1
    have HO1 := Lib.hid ho1
    clear hb1 hx1 ho1 p0 p1 p2
    go_loopw [3, 4] (fun q3 i wr => ∃ (k : Nat) (xa : Option Addr) (xc : Nat) (xs : List Value), k ≤ f.len ∧ i = .int .i64 k ∧ q3 = .slice xa k xc ∧ Boxes wr w.heap.size 28 #[.int .i64 0, .int .i64 0, .slice none 0 0] ∧ wr.ownsRow (w.heap.size + 1) 28 3 (.slice xa k xc) k xs ∧ GsAt wr (fun q => w.heap.size + 1 ≤ q ∧ ∀ a, xa = some a → q ≠ a.block) (f.re dualF) k xs ∧ Below w.heap.size w wr)
      (fun _ i _ => f.len - (intOf i).toNat)
    case atStart => exact ⟨0, _, 0, [], Nat.zero_le _, rfl, rfl, HX1.out, HO1.out, fun j hj => absurd hj (Nat.not_lt_zero _), HB1.out⟩
    case round =>
      obtain ⟨k, xa, xc, xs, hk, rfl, rfl, hx, hown, hgs, hb⟩ := hrel
      have HX := Lib.hid hx
      have HO := Lib.hid hown
      have HGS := Lib.hid hgs
      have HB := Lib.hid hb
      have hsz := hb.size
      have hwx := hx.lt
      have p0 := cell_step hb HP.out.1
      have p1 := cell_step hb HP.out.2.1
      have p2 := cell_step hb HP.out.2.2
      clear hx hown hgs hb HX1 HO1 HB1
      by_cases hlt : k < f.len
      · rcases (HK.out.step HB.out) with h | ⟨b, o, rfl, hBb, hF⟩
        · rw [h] at hlt; exact absurd hlt (Nat.not_lt_zero _)
        obtain ⟨g1, g2, ai, ci, g3, g4⟩ := hF.get hlt
        have hs := f.k_size hlt
        have hxl : xs.length = k * 3 := by have := HO.out.1; omega
        obtain ⟨e1, e2, e3⟩ := HRE.out k hlt
        have HSN := Lib.hid (show ∀ (W : World) (ok : Nat → Prop) (a : Option Addr) (c : Nat), GsAt W ok (f.re dualF) k xs → KidsQ W ok a ((f.kAt k).re dualF) → GsAt W ok (f.re dualF) (k + 1) (xs ++ [.int .i64 (dualF (f.hAt k) (f.lAt k) ((f.kAt k).re dualF)).1, .int .i64 (dualF (f.hAt k) (f.lAt k) ((f.kAt k).re dualF)).2.1, .slice a ((f.kAt k).re dualF).len c]) from fun W ok a c q1 q2 => by
          have := q1.snoc (a := a) (c := c) hxl (by rw [e3]; exact q2)
          rw [e1, e2, e3] at this
          exact this)
        have HGF := Lib.hid (Fo.form_get HF.out hlt)
        have HG4 := Lib.hid g4
        have hi0 : (k : Int) < (f.len : Int) := by omega
        clear g4 hF e1 e2 e3 hxl
        generalize f.hAt k = gh at *
        generalize f.lAt k = gl at *
        generalize f.kAt k = gk at *
        go_wp2_with (first | (go_at_call 28; refine (HIH.out gk (by omega) (by omega) B b (o + k * 3) n gh gl ai ci wr HGF.out g1 g2 g3 HG4.out).mono ?_; rintro e w8 ⟨⟨a8, c8, rfl, hk8⟩, hb8⟩; have HK8 := Lib.hid hk8; have HB8 := Lib.hid hb8; have h38 : wr.heap.size ≤ w8.heap.size := hb8.size; have HX8 := Lib.hid (HX.out.step hb8); have HO8 := Lib.hid (row_step HO.out hb8); have HG8 := Lib.hid (HGS.out.step hb8)) | (at_builtin; refine wpList_append_own_at _ rfl _ _ 26 rfl (w.heap.size + 1) 28 i3 (.agg #[.int .i64 0, .int .i64 0, .slice none 0 0]) 3 40 Try.underlying26 ji jz0 jz1 jz2 rfl (by decide) (.slice xa k xc) k xs rfl (World.ownsRow.alloc HO8.out _) ⟨w8.heap.size, 0, none⟩ 1 1 [.int .i64 (dualF gh gl (gk.re dualF)).1, .int .i64 (dualF gh gl (gk.re dualF)).2.1, .slice a8 (gk.re dualF).len c8] rfl rfl (news3 _ _ _ _ _) (by simp [Value.oneCell']) (by unfold maxLen; omega) (by omega) (by simp; omega) ?_; intro v' w9 hown9 hgrow9 _ hat9))
        obtain ⟨xa', xc', rfl⟩ := rowForm hown9
        have hx9 := (HX8.out.step ((Below.refl _ _).alloc (Nat.le_refl _) (.cells #[.int .i64 (dualF gh gl (gk.re dualF)).1, .int .i64 (dualF gh gl (gk.re dualF)).2.1, .slice a8 (gk.re dualF).len c8] 28))).grownN hgrow9 (row_geN HO8.out (Nat.lt_succ_self _))
        have hgk := grow_kids (P := fun q => w.heap.size + 1 ≤ q) HO8.out hgrow9 hat9
        have HG9 := Lib.hid (HSN.out w9 (fun q => w.heap.size + 1 ≤ q ∧ ∀ a, xa' = some a → q ≠ a.block) a8 c8 (HG8.out.map hgk) (HK8.out.map fun b o v q hc => hgk b o v ⟨by omega, fun a e => by have := (ownN_lt HO.out (b := a.block) (by rw [e]; rfl)).2; omega⟩ hc))
        have HX9 := Lib.hid hx9
        have HO9 := Lib.hid hown9
        have HB9 := Lib.hid (((HB.out.trans (HB8.out.mono HB.out.size)).alloc (by omega) (.cells #[.int .i64 (dualF gh gl (gk.re dualF)).1, .int .i64 (dualF gh gl (gk.re dualF)).2.1, .slice a8 (gk.re dualF).len c8] 28)).grown hgrow9 (by simp; omega) (fun q hq => by have := ownN_lt HO8.out hq; omega))
        clear hx9 hown9 hgrow9 hat9 hgk p0 p1 p2 g1 g2 g3
        go_wp2_with fail
        go_roundw
        case rel => exact ⟨k + 1, xa', xc', _, by omega, by go_num, rfl, HX9.out, HO9.out, HG9.out, HB9.out⟩
        case measure => simp [intOf]; omega
      · have HE := Lib.hid (show k = f.len by omega)
        have hkl : (0 : Int) ≤ (k : Int) - l + 1 := by omega
        have HFN := Lib.hid (show KidsQ wr (w.heap.size + 1 ≤ ·) xa (f.re dualF) from by
          rcases HO.out.2 with ⟨hv, hn⟩ | ⟨g, cap, cur, hv, hgb, _⟩
          · have := HPOS.out; have := HE.out; omega
          · cases hv
            refine .inr ⟨g, 0, rfl, hgb, QAt.of fun i hi => ?_⟩
            rw [HRL.out] at hi
            have hE := HE.out
            obtain ⟨h1, h2, a2, c2, h3, h4⟩ := HGS.out i (by omega)
            rw [Nat.zero_add]
            exact ⟨by rw [World.ownsRow.cellAt HO.out _ (by omega)]; exact h1, by rw [World.ownsRow.cellAt HO.out _ (by omega)]; exact h2, a2, c2, by rw [World.ownsRow.cellAt HO.out _ (by omega)]; exact h3, h4.map fun b o v q hc => ⟨q.1, hc⟩⟩)
        go_wp2_with fail
        refine (l02Gate_any ((k : Int) - l + 1) xa k xc _).mono ?_
        rintro e w9 ⟨rfl, hb9⟩
        have hx9 := HX.out.step hb9
        have x0 := hx9.g0
        have x1 := hx9.g1
        have x2 := hx9.g2
        have f0 := hx9.gf 0
        have f1 := hx9.gf 1
        have f2 := hx9.gf 2
        have xl := hx9.lt
        have HFN9 := Lib.hid (HFN.out.step hb9)
        have HB9 := Lib.hid (HB.out.trans (hb9.mono hsz))
        clear hb9 hx9 p0 p1 p2
        go_wp2_with fail
        refine bodyPost_ret (v := .agg #[.int .i64 (-1), .int .i64 ((k : Int) - l + 1), .slice xa k xc]) (by simp [results, Try.results28, go_sem, x0, x1, x2]) rfl ⟨⟨xa, xc, ?_, ?_⟩, ?_⟩
        · rw [HRL.out]
          simp only [dualF]
          rw [if_neg (by rw [HRL.out]; have := HPOS.out; omega), HRL.out, HE.out]
        · exact HFN9.out.map fun b o v (q : w.heap.size + 1 ≤ b) hc => ⟨by show w.heap.size ≤ b; omega, by
            rw [World.cell?_of_block (Below.heap_setCell _ _ _ b (fun e => by simp at e; omega)), World.cell?_of_block (Below.heap_setCell _ _ _ b (fun e => by simp at e; omega)), World.cell?_of_block (Below.heap_setCell _ _ _ b (fun e => by simp at e; omega))]
            exact hc⟩
        · exact ((HB9.out.setCell (p := ⟨w.heap.size, 0, none⟩) (Nat.le_refl _) _).setCell (p := ⟨w.heap.size, 1, none⟩) (Nat.le_refl _) _).setCell (p := ⟨w.heap.size, 2, none⟩) (Nat.le_refl _) _
end Go.Proofs.Ytjhggglaglpgfaa
