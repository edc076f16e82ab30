/- Nodes: gates as values of an interface; newNode and nodeOf of the program. -/
import Derived.Test.YtjhggglaglpgfaaVg2
import Derived.Deep.AppendLies
import Derived.Deep.RegionLaw
import Derived.Deep.DrawnRows
namespace Go.Proofs.Ytjhggglaglpgfaa
open Go.RowKit Go.Deep
set_option linter.unusedVariables false
attribute [local go_sem ↓] Go.wp_at_zero Go.wp_at_succ

theorem Try.infoNode : (Try.prog.info? 49).map (fun i => (i.zero, i.size, i.bytes)) = some (some .nilIface, 1, 16) := by kernel_rfl

/-- Nodes in a slice's cells, in blocks of which something is known. -/
def NAt (W : World) (ok : Nat → Prop) : Fo → Nat → Nat → Prop
  | .nil, _, _ => True
  | .cons h l k r, b, o => (∃ v, W.cell? ⟨b, o, none⟩ = some v ∧ ((k = .nil ∧ v = .iface 62 (.agg #[.int .i64 h])) ∨
      (k ≠ .nil ∧ ∃ b' o' c, v = .iface 68 (.agg #[.int .i64 l, .slice (some ⟨b', o', none⟩) k.len c]) ∧ ok b' ∧ NAt W ok k b' o'))) ∧ NAt W ok r b (o + 1)
/-- The value of a node. -/
def NV (W : World) (ok : Nat → Prop) (h l : Int) (k : Fo) (v : Value) : Prop :=
  (k = .nil ∧ v = .iface 62 (.agg #[.int .i64 h])) ∨
      (k ≠ .nil ∧ ∃ b' o' c, v = .iface 68 (.agg #[.int .i64 l, .slice (some ⟨b', o', none⟩) k.len c]) ∧ ok b' ∧ NAt W ok k b' o')
theorem NAt.get {W : World} {ok : Nat → Prop} {f : Fo} {b o : Nat} (h : NAt W ok f b o) {i : Nat} (hi : i < f.len) :
    ∃ v, W.cell? ⟨b, o + i, none⟩ = some v ∧ NV W ok (f.hAt i) (f.lAt i) (f.kAt i) v := by
  induction f generalizing i o with
  | nil => simp [Fo.len] at hi
  | cons x l k r _ ih =>
    cases i with
    | zero => exact h.1
    | succ i =>
      have := ih h.2 (i := i) (by simp [Fo.len] at hi; omega)
      rw [show o + 1 + i = o + (i + 1) by omega] at this
      exact this
theorem NAt.of {W : World} {ok : Nat → Prop} {f : Fo} {b o : Nat} (h : ∀ i, i < f.len → ∃ v, W.cell? ⟨b, o + i, none⟩ = some v ∧ NV W ok (f.hAt i) (f.lAt i) (f.kAt i) v) : NAt W ok f b o := by
  induction f generalizing o with
  | nil => trivial
  | cons x l k r _ ih =>
    refine ⟨h 0 (by simp [Fo.len]), ih fun i hi => ?_⟩
    have := h (i + 1) (by simp [Fo.len]; omega)
    rw [show o + (i + 1) = o + 1 + i by omega] at this
    exact this
theorem NAt.map {W W' : World} {ok ok' : Nat → Prop} (hk : ∀ b o v, ok b → W.cell? ⟨b, o, none⟩ = some v → ok' b ∧ W'.cell? ⟨b, o, none⟩ = some v) {f : Fo} {b o : Nat} (h : NAt W ok f b o) (hb : ok b) : NAt W' ok' f b o := by
  induction f generalizing b o with
  | nil => trivial
  | cons x l k r ihk ihr =>
    obtain ⟨⟨v, h1, h2⟩, h3⟩ := h
    refine ⟨⟨v, (hk _ _ _ hb h1).2, ?_⟩, ihr h3 hb⟩
    rcases h2 with h2 | ⟨hne, b', o', c, e, hb', h4⟩
    · exact .inl h2
    · refine .inr ⟨hne, b', o', c, e, ?_, ihk h4 hb'⟩
      cases k with
      | nil => exact absurd rfl hne
      | cons y m k2 r2 =>
        obtain ⟨⟨u, h5, _⟩, _⟩ := h4
        exact (hk _ _ _ hb' h5).1
theorem NV.map {W W' : World} {ok ok' : Nat → Prop} (hk : ∀ b o v, ok b → W.cell? ⟨b, o, none⟩ = some v → ok' b ∧ W'.cell? ⟨b, o, none⟩ = some v) {h l : Int} {k : Fo} {v : Value} (hv : NV W ok h l k v) : NV W' ok' h l k v := by
  rcases hv with h2 | ⟨hne, b', o', c, e, hb', h4⟩
  · exact .inl h2
  · refine .inr ⟨hne, b', o', c, e, ?_, h4.map hk hb'⟩
    cases k with
    | nil => exact absurd rfl hne
    | cons y m k2 r2 =>
      obtain ⟨⟨u, h5, _⟩, _⟩ := h4
      exact (hk _ _ _ hb' h5).1
theorem NV.step {W W' : World} {ok : Nat → Prop} {h l : Int} {k : Fo} {v : Value} (hv : NV W ok h l k v) (hb : Below W.heap.size W W') : NV W' ok h l k v := hv.map fun b o u q hc => ⟨q, cell_step hb hc⟩
theorem NV.mono {W : World} {ok ok' : Nat → Prop} {h l : Int} {k : Fo} {v : Value} (hv : NV W ok h l k v) (hb : ∀ b, ok b → ok' b) : NV W ok' h l k v := hv.map fun b o u q hc => ⟨hb b q, hc⟩
theorem NV.form {W : World} {ok : Nat → Prop} {h l : Int} {k : Fo} {v : Value} (hv : NV W ok h l k v) : ∃ t x, v = .iface t x := by
  rcases hv with ⟨_, h2⟩ | ⟨hne, b', o', c, e, hb', h4⟩
  · exact ⟨_, _, h2⟩
  · exact ⟨_, _, e⟩
/-- A list of nodes. -/
def NVs (W : World) (ok : Nat → Prop) (f : Fo) (n : Nat) (xs : List Value) : Prop := ∀ j, j < n → ∃ v, xs[j]? = some v ∧ NV W ok (f.hAt j) (f.lAt j) (f.kAt j) v
theorem NVs.snoc {W : World} {ok : Nat → Prop} {f : Fo} {n : Nat} {xs : List Value} {v : Value} (h : NVs W ok f n xs) (hl : xs.length = n) (hv : NV W ok (f.hAt n) (f.lAt n) (f.kAt n) v) : NVs W ok f (n + 1) (xs ++ [v]) := by
  intro j hj
  by_cases e : j = n
  · subst e
    exact ⟨v, by rw [List.getElem?_append_right (by omega), hl, Nat.sub_self]; rfl, hv⟩
  · obtain ⟨u, h1, h2⟩ := h j (by omega)
    exact ⟨u, by rw [List.getElem?_append_left (by omega)]; exact h1, h2⟩
theorem NVs.map {W W' : World} {ok ok' : Nat → Prop} (hk : ∀ b o v, ok b → W.cell? ⟨b, o, none⟩ = some v → ok' b ∧ W'.cell? ⟨b, o, none⟩ = some v) {f : Fo} {n : Nat} {xs : List Value} (h : NVs W ok f n xs) : NVs W' ok' f n xs := fun j hj => by
  obtain ⟨u, h1, h2⟩ := h j hj
  exact ⟨u, h1, h2.map hk⟩
theorem NVs.step {W W' : World} {ok : Nat → Prop} {f : Fo} {n : Nat} {xs : List Value} (h : NVs W ok f n xs) (hb : Below W.heap.size W W') : NVs W' ok f n xs := h.map fun b o u q hc => ⟨q, cell_step hb hc⟩

theorem Boxes.n0 {W : World} {B : Nat} {t : TypeId} {v0 v1 : Value} (h : Boxes W B t #[v0, v1]) : W.cell? ⟨B, 0, none⟩ = some v0 := by rw [h.cell]; rfl
theorem Boxes.n1 {W : World} {B : Nat} {t : TypeId} {v0 v1 : Value} (h : Boxes W B t #[v0, v1]) : W.cell? ⟨B, 1, none⟩ = some v1 := by rw [h.cell]; rfl
theorem Boxes.grownN {W W' : World} {B : Nat} {t : TypeId} {vs : Array Value} {row : Option Nat} (h : Boxes W B t vs) (hg : W.grownBy W' row) (hne : row ≠ some B) : Boxes W' B t vs := (hg.block B h.lt (fun e => hne e.symm)).trans h
theorem Boxes.setN1 {W : World} {B : Nat} {t : TypeId} {u0 u1 : Value} (h : Boxes W B t #[u0, u1]) (v : Value) : Boxes (W.setCell ⟨B, 1, none⟩ v) B t #[u0, v] := by
  unfold Boxes at h ⊢
  simp [World.setCell, Array.getElem?_modify, h]
theorem ownN_lt {W : World} {base e size n : Nat} {u : Value} {xs : List Value} (h : W.ownsRow base e size u n xs) {b : Nat} (hb : u.ownBlock = some b) : base ≤ b ∧ b < W.heap.size := by
  rcases h.2 with ⟨rfl, _⟩ | ⟨g, cap, cur, rfl, hg, hh, _⟩
  · simp [Value.ownBlock] at hb
  · simp [Value.ownBlock] at hb
    subst hb
    exact ⟨hg, (Array.getElem?_eq_some_iff.1 hh).1⟩
theorem row_geN {W : World} {base B e size n : Nat} {u : Value} {xs : List Value} (h : W.ownsRow base e size u n xs) (hB : B < base) : u.ownBlock ≠ some B := fun e => by have := ownN_lt h e; omega
theorem row_setN {W : World} {base e size k : Nat} {v : Value} {xs : List Value} (h : W.ownsRow base e size v k xs) {p : Addr} (hb : p.block < base) (u : Value) : (W.setCell p u).ownsRow base e size v k xs := by
  refine h.kept ⟨rfl, rfl, rfl, (KeepsWalks.setCell W _ u).size, fun q _ hq => Below.heap_setCell _ _ _ q (fun e => hq (by rw [e]))⟩ (row := some p.block) ?_
  rcases h.2 with ⟨rfl, _⟩ | ⟨g, cap, cur, rfl, hg, _⟩
  · exact .inl rfl
  · refine .inr fun e' => ?_
    obtain rfl : g = p.block := by simpa [Value.ownBlock] using e'
    omega
theorem cell_grownN {W W' : World} {row : Option Nat} (hg : W.grownBy W' row) {b o : Nat} {v : Value} (hb : row ≠ some b) (h : W.cell? ⟨b, o, none⟩ = some v) : W'.cell? ⟨b, o, none⟩ = some v := by
  rw [World.cell?_of_block (hg.block b (World.block_lt_of_cell? _ _ h) (fun e => hb e.symm))]; exact h

/-- Blocks of nodes: from a block on, and not the slice's own one. -/
def NOk (B : Nat) (xa : Option Addr) (b : Nat) : Prop := B ≤ b ∧ ∀ a, xa = some a → b ≠ a.block

set_option maxRecDepth 100000 in
set_option maxHeartbeats 4000000 in
theorem newNode_any : ∀ (m : Nat) (f : Fo), f.size < m → m ≤ 1048577 → ∀ (B : Nat) (h l : Int) (a : Option Addr) (c : Nat) (w : World), Kids w B a f →
    Calls Try.prog 52 #[.agg #[.int .i64 h, .int .i64 l, .slice a f.len c]] w fun e w' => (∃ t x, e = .returned (.iface t x) ∧ NV w' (w.heap.size ≤ ·) h l f (.iface t x)) ∧ Below w.heap.size w w' := by
  intro m
  induction m with
  | zero => exact fun f hf => absurd hf (Nat.not_lt_zero _)
  | succ m ih =>
    intro f hf hm B h l a c w hk
    have hlen := f.len_le
    have HIH := Lib.hid ih
    have hb1 := (Below.refl w.heap.size w).alloc (Nat.le_refl _) (.cells #[.int .i64 h, .int .i64 l, .slice a f.len c] 28)
    have HK := Lib.hid hk
    have HK1 := Lib.hid (hk.step hb1)
    clear ih hk
    obtain ⟨i1, ji, jz0, jz1, jz2⟩ := info_parts Try.infoNode
    by_cases hz : f.len = 0
    · have hzn := Fo.len_zero hz
      subst hzn
      clear hz
      have HB1 := Lib.hid hb1
      clear hb1
      go_enter Try.func52, Try.ntmps52
      go_wp2_with fail
      go_ret
      exact ⟨⟨_, _, rfl, .inl ⟨rfl, rfl⟩⟩, HB1.out⟩
    have hpos : 0 < f.len := by omega
    have s0 : (f.len == 0) = false := by simp; omega
    have s1 : ((f.len : Int) == 0) = false := by simp; omega
    have HPOS := Lib.hid hpos
    clear hz
    go_enter Try.func52, Try.ntmps52
    go_wp2_with fail
    have hb2 := hb1.alloc (by simp) (.cells #[.int .i64 l, .slice none 0 0] 68)
    have hx2 : Boxes ((w.alloc (.cells #[.int .i64 h, .int .i64 l, .slice a f.len c] 28)).alloc (.cells #[.int .i64 l, .slice none 0 0] 68)) (w.heap.size + 1) 68 #[.int .i64 l, .slice none 0 0] := by
      have : Boxes ((w.alloc (.cells #[.int .i64 h, .int .i64 l, .slice a f.len c] 28)).alloc (.cells #[.int .i64 l, .slice none 0 0] 68)) (w.alloc (.cells #[.int .i64 h, .int .i64 l, .slice a f.len c] 28)).heap.size 68 #[.int .i64 l, .slice none 0 0] := World.alloc_heap_new _ _
      simp only [World.size_alloc] at this
      exact this
    have hx1 : Boxes ((w.alloc (.cells #[.int .i64 h, .int .i64 l, .slice a f.len c] 28)).alloc (.cells #[.int .i64 l, .slice none 0 0] 68)) w.heap.size 28 #[.int .i64 h, .int .i64 l, .slice a f.len c] := Boxes.step (World.alloc_heap_new w _) ((Below.refl _ _).alloc (Nat.le_refl _) (.cells #[.int .i64 l, .slice none 0 0] 68))
    generalize (w.alloc (.cells #[.int .i64 h, .int .i64 l, .slice a f.len c] 28)).alloc (.cells #[.int .i64 l, .slice none 0 0] 68) = w2 at *
    have HX2 := Lib.hid hx2
    have HB2 := Lib.hid hb2
    clear hx1 hx2 hb2 hb1 HK1
    go_loopw [5, 20] (fun _ i wr => ∃ (k : Nat) (xa : Option Addr) (xc : Nat) (xs : List Value), k ≤ f.len ∧ i = .int .i64 k ∧ Boxes wr (w.heap.size + 1) 68 #[.int .i64 l, .slice xa k xc] ∧ wr.ownsRow (w.heap.size + 2) 49 1 (.slice xa k xc) k xs ∧ NVs wr (NOk (w.heap.size + 2) xa) f k xs ∧ Below w.heap.size w wr)
      (fun _ i _ => f.len - (intOf i).toNat)
    case atStart => exact ⟨0, none, 0, [], Nat.zero_le _, rfl, HX2.out, World.ownsRow_nil _ _ _ _, fun j hj => absurd hj (Nat.not_lt_zero _), HB2.out⟩
    case round =>
      obtain ⟨k, xa, xc, xs, hk, rfl, hx, hown, hnv, hb⟩ := hrel
      have HX := Lib.hid hx
      have HO := Lib.hid hown
      have HNV := Lib.hid hnv
      have HB := Lib.hid hb
      have c0 := hx.n0
      have c1 := hx.n1
      have k1 := hx.gf 1
      have hlx := hx.lt
      clear hx hown hnv hb HX2 HB2
      by_cases hlt : k < f.len
      · rcases HK.out with h | ⟨b, o, rfl, hBb, hF⟩
        · rw [h] at hlt; exact absurd hlt (Nat.not_lt_zero _)
        obtain ⟨g1, g2, ai, ci, g3, g4⟩ := hF.get hlt
        have x1 := cell_step HB.out g1
        have x2 := cell_step HB.out g2
        have x3 := cell_step HB.out g3
        have HG := Lib.hid (g4.step HB.out)
        have hs := f.k_size hlt
        have hxl : xs.length = k := by have := HO.out.1; omega
        have HSN := Lib.hid (show ∀ (W : World) (ok : Nat → Prop) (v : Value), NVs W ok f k xs → NV W ok (f.hAt k) (f.lAt k) (f.kAt k) v → NVs W ok f (k + 1) (xs ++ [v]) from fun W ok v h1 h2 => h1.snoc hxl h2)
        clear g1 g2 g3 g4 hF hxl
        have hi0 : (k : Int) < (f.len : Int) := by omega
        generalize f.hAt k = gh at *
        generalize f.lAt k = gl at *
        generalize f.kAt k = gk at *
        go_wp2_with fail
        have hb3 := (Below.refl wr.heap.size wr).alloc (Nat.le_refl _) (.cells #[.int .i64 gh, .int .i64 gl, .slice ai gk.len ci] 28)
        have hy3 : Boxes (wr.alloc (.cells #[.int .i64 gh, .int .i64 gl, .slice ai gk.len ci] 28)) wr.heap.size 28 #[.int .i64 gh, .int .i64 gl, .slice ai gk.len ci] := World.alloc_heap_new _ _
        have hs3 : (wr.alloc (.cells #[.int .i64 gh, .int .i64 gl, .slice ai gk.len ci] 28)).heap.size = wr.heap.size + 1 := by simp
        generalize wr.alloc (.cells #[.int .i64 gh, .int .i64 gl, .slice ai gk.len ci] 28) = w3 at *
        have HX3 := Lib.hid (HX.out.step hb3)
        have HY3 := Lib.hid hy3
        have HG3 := Lib.hid (HG.out.step hb3)
        have HO3 := Lib.hid (row_step HO.out hb3)
        have HN3 := Lib.hid (HNV.out.step hb3)
        have HB3 := Lib.hid (HB.out.trans (hb3.mono HB.out.size))
        have HS3 := Lib.hid hs3
        clear hb3 hy3 hs3 c0 c1 k1 x1 x2 x3 HX HO HNV HB HG
        have d0 := HX3.out.n0
        have d1 := HX3.out.n1
        have dk := HX3.out.gf 1
        have dl := HX3.out.lt
        have y0 := HY3.out.g0
        have y1 := HY3.out.g1
        have y2 := HY3.out.g2
        have yl := HY3.out.lt
        go_region_law ((first | (go_simp; go_at_call 52; refine (HIH.out gk (by omega) (by omega) B gh gl ai ci _ (by first | exact HG3.out | exact HG3.out.step (drew_step _))).mono ?_; rintro e w8 ⟨⟨nt, nx, rfl, hnv8⟩, hb8⟩; have HX8 := Lib.hid (show Boxes w8 (w.heap.size + 1) 68 #[.int .i64 l, .slice xa k xc] by first | exact HX3.out.step hb8 | exact (HX3.out.step (drew_step _)).step hb8); have HO8 := Lib.hid (show w8.ownsRow (w.heap.size + 2) 49 1 (.slice xa k xc) k xs by first | exact row_step HO3.out hb8 | exact row_step (row_step HO3.out (drew_step _)) hb8); have HN8 := Lib.hid (show NVs w8 (NOk (w.heap.size + 2) xa) f k xs by first | exact HN3.out.step hb8 | exact (HN3.out.step (drew_step _)).step hb8); have HB8 := Lib.hid (show Below w.heap.size w w8 by first | exact HB3.out.trans (hb8.mono HB3.out.size) | exact HB3.out.drew.trans (hb8.mono HB3.out.size)); have h38 : w3.heap.size ≤ w8.heap.size := hb8.size; have HNV8 := Lib.hid (show NV w8 (w3.heap.size ≤ ·) gh gl gk (.iface nt nx) from hnv8); have z0 := HX8.out.n0; have z1 := HX8.out.n1; have zk := HX8.out.gf 1; have zl := HX8.out.lt) | (refine step_append_lies _ (by rfl) _ _ 66 (by rfl) (w.heap.size + 2) 49 i1 .nilIface 1 16 Try.underlying66 ji jz0 jz1 jz2 (by rfl) (by decide) (.slice xa k xc) k xs (by rfl) (by first | exact World.ownsRow.alloc HO8.out _ | exact row_step (World.ownsRow.alloc HO8.out _) (drew_step _) | exact World.ownsRow.alloc (row_step HO8.out (drew_step _)) _) ⟨w8.heap.size, 0, none⟩ 1 1 [.iface nt nx] (by rfl) (by rfl) (by first | exact cell_one_new _ _ _ | (intro j u hj; exact cell_one_new w8 _ _ j u hj)) (by simp [Value.oneCell']) (by decide) (by unfold maxLen; omega) (by omega) (by simp; omega) _ rfl ?_; intro g cap w9 hown9 hgrow9 hat9 hlt9; have hx9 := Boxes.grownN (Boxes.step HX8.out (by first | exact (Below.refl _ _).alloc (Nat.le_refl _) _ | exact ((Below.refl _ _).alloc (Nat.le_refl _) _).drew | exact (Below.refl _ _).drew.alloc (Nat.le_refl _) _)) hgrow9 (row_geN HO8.out (by omega)); have v0 := hx9.n0; have v1 := hx9.n1; have vk := hx9.gf 1; have vl := hx9.lt)))
        all_goals (
          have HX9 := Lib.hid hx9
          have HO9 := Lib.hid hown9
          have hcell9 : ∀ b o u, (b < w8.heap.size ∧ ∀ a, xa = some a → b ≠ a.block) → w8.cell? ⟨b, o, none⟩ = some u → w9.cell? ⟨b, o, none⟩ = some u := fun b o u q hc => cell_grownN hgrow9 (fun e => by
            cases xa with
            | none => simp [Value.ownBlock] at e
            | some a => simp [Value.ownBlock] at e; exact q.2 a rfl e.symm) (cell_step (by first | exact (Below.refl _ _).alloc (Nat.le_refl _) _ | exact ((Below.refl _ _).alloc (Nat.le_refl _) _).drew | exact (Below.refl _ _).drew.alloc (Nat.le_refl _) _) hc)
          have hg9 : (∃ a, xa = some a ∧ a.block = g) ∨ w8.heap.size < g := by
            rcases hat9 with e | e
            · cases xa with
              | none => simp [Value.ownBlock] at e
              | some a => simp [Value.ownBlock] at e; exact .inl ⟨a, rfl, e⟩
            · simp at e; right; omega
          have HN9 := Lib.hid (show NVs (w9.setCell ⟨w.heap.size + 1, 1, none⟩ (.slice (some ⟨g, 0, none⟩) (k + 1) cap)) (NOk (w.heap.size + 2) (some ⟨g, 0, none⟩)) f (k + 1) (xs ++ [.iface nt nx]) from by
            have hsc : ∀ b o u, w.heap.size + 2 ≤ b → w9.cell? ⟨b, o, none⟩ = some u → (w9.setCell ⟨w.heap.size + 1, 1, none⟩ (.slice (some ⟨g, 0, none⟩) (k + 1) cap)).cell? ⟨b, o, none⟩ = some u := fun b o u q hc => by
              rw [World.cell?_of_block (Below.heap_setCell _ _ _ b (fun e => by simp at e; omega))]; exact hc
            refine HSN.out _ _ _ ?_ ?_
            · refine HN8.out.map fun b o u q hc => ?_
              have hbl := World.block_lt_of_cell? _ _ hc
              simp only at hbl
              refine ⟨⟨q.1, fun a e => ?_⟩, hsc b o u q.1 (hcell9 b o u ⟨hbl, q.2⟩ hc)⟩
              cases e
              rcases hg9 with ⟨a, e1, e2⟩ | e2
              · rw [← e2]; exact q.2 a e1
              · simp only; omega
            · refine HNV8.out.map fun b o u q hc => ?_
              have hbl := World.block_lt_of_cell? _ _ hc
              simp only at hbl
              have hxo : ∀ a, xa = some a → a.block < w3.heap.size := fun a e => (ownN_lt HO3.out (by rw [e]; rfl)).2
              refine ⟨⟨by omega, fun a e => ?_⟩, hsc b o u (by omega) (hcell9 b o u ⟨hbl, fun a e => by have := hxo a e; omega⟩ hc)⟩
              cases e
              rcases hg9 with ⟨a, e1, e2⟩ | e2
              · have := hxo a e1; simp only; omega
              · simp only; omega)
          have HB9 := Lib.hid (show Below w.heap.size w w9 from Below.grown (by first | exact HB8.out.alloc HB8.out.size _ | exact (HB8.out.alloc HB8.out.size _).drew | exact HB8.out.drew.alloc HB8.out.size _) hgrow9 (by have := HB8.out.size; first | (simp only [World.size_alloc]; omega) | (simp only [World.size_drew, World.size_alloc]; omega)) (fun q hq => by have := ownN_lt HO8.out hq; omega))
          clear hx9 hown9 hgrow9 hat9 hlt9 hcell9 hg9 v0 z0 z1 zk zl d0 d1 dk dl y0 y1 y2 yl
          go_wp2_with fail
          go_roundw
          case rel => exact ⟨k + 1, some ⟨g, 0, none⟩, cap, xs ++ [.iface nt nx], by omega, by go_num, HX9.out.setN1 _, row_setN HO9.out (Nat.lt_succ_self _) _, HN9.out, HB9.out.setCell (p := ⟨w.heap.size + 1, 1, none⟩) (Nat.le_succ _) _⟩
          case measure => simp [intOf]; omega)
      · have hE : k = f.len := by omega
        have HF := Lib.hid (show NV wr (w.heap.size ≤ ·) h l f (.iface 68 (.agg #[.int .i64 l, .slice xa k xc])) from by
          rcases HO.out.2 with ⟨hv, hn⟩ | ⟨g, cap, cur, hv, hgb, _⟩
          · have := HPOS.out; omega
          · cases hv
            refine .inr ⟨fun e => ?_, g, 0, xc, by rw [hE], by show w.heap.size ≤ g; omega, NAt.of fun i hi => ?_⟩
            · have := HPOS.out; rw [e] at this; exact absurd this (Nat.not_lt_zero _)
            · obtain ⟨v, h1, h2⟩ := HNV.out i (by omega)
              exact ⟨v, by rw [Nat.zero_add, World.ownsRow.cellAt HO.out i (by omega)]; exact h1, h2.mono fun b q => Nat.le_trans (Nat.le_add_right _ 2) q.1⟩)
        go_wp2_with fail
        go_ret
        exact ⟨⟨_, _, rfl, by have := HF.out; rw [hE] at this; exact this⟩, HB.out⟩

/-- What a gate's node is: one, or none where the gate is not valid. -/
structure GivesNode (W : World) (n h l : Int) (f : Fo) (e : Ending) (w' : World) : Prop where
  val : (GateOk n h l f ∧ ∃ t x, e = .returned (.tuple #[.iface t x, .bool true]) ∧ NV w' (W.heap.size ≤ ·) h l f (.iface t x)) ∨ (¬ GateOk n h l f ∧ e = .returned (.tuple #[.nilIface, .bool false]))
  below : Below W.heap.size W w'
set_option maxRecDepth 100000 in
set_option maxHeartbeats 2000000 in
theorem nodeOf_any (f : Fo) (hf : f.size ≤ 1048576) (B : Nat) (n h l : Int) (a : Option Addr) (c : Nat) (w : World) (hk : Kids w B a f) :
    Calls Try.prog 30 #[.int .i64 n, .agg #[.int .i64 h, .int .i64 l, .slice a f.len c]] w (GivesNode w n h l f) := by
  have hb := (Below.refl w.heap.size w).alloc (Nat.le_refl _) (.cells #[.int .i64 h, .int .i64 l, .slice a f.len c] 28)
  have hx : Boxes (w.alloc (.cells #[.int .i64 h, .int .i64 l, .slice a f.len c] 28)) w.heap.size 28 #[.int .i64 h, .int .i64 l, .slice a f.len c] := World.alloc_heap_new _ _
  have HK := Lib.hid (hk.step hb)
  have HB := Lib.hid hb
  have HX := Lib.hid hx
  clear hk hb hx
  go_enter Try.func30, Try.ntmps30
  go_wp2_with fail
  refine (implVg_any f hf B n h l a c _ HK.out).mono ?_
  generalize w.alloc (.cells #[.int .i64 h, .int .i64 l, .slice a f.len c] 28) = w1 at *
  rintro e w2 ⟨rfl, hb2⟩
  have HB2 := Lib.hid (HB.out.trans (hb2.mono HB.out.size))
  have HK2 := Lib.hid (HK.out.step hb2)
  have hx2 := HX.out.step hb2
  have x0 := hx2.g0
  have x1 := hx2.g1
  have x2 := hx2.g2
  have lx := hx2.lt
  clear hb2 hx2
  rcases Classical.em (GateOk n h l f) with q | q
  · rw [tell_true q]
    have HQ := Lib.hid q
    clear q
    go_wp2_with fail
    refine (newNode_any 1048577 f (by omega) (Nat.le_refl _) B h l a c _ HK2.out).mono ?_
    rintro e w3 ⟨⟨t, x, rfl, hv⟩, hb3⟩
    have HV := Lib.hid (hv.mono fun b q => Nat.le_trans HB2.out.size q)
    have HB3 := Lib.hid (HB2.out.trans (hb3.mono HB2.out.size))
    clear hv hb3 x0 x1 x2 lx
    go_wp2_with fail
    go_ret2
    exact ⟨.inl ⟨HQ.out, t, x, rfl, HV.out⟩, HB3.out⟩
  · rw [tell_false q]
    have HQ := Lib.hid q
    clear q x0 x1 x2 lx
    go_wp2_with fail
    go_ret2
    exact ⟨.inr ⟨HQ.out, rfl⟩, HB2.out⟩
end Go.Proofs.Ytjhggglaglpgfaa
