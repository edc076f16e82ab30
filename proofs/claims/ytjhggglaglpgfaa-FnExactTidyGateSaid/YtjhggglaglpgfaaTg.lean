/- Gates as forests: first kids and next ones; how they lie in memory; a gate that is given, opened. -/
import Derived.Test.YtjhggglaglpgfaaKa
import Derived.Lib.SmallJoins
import Derived.Deep.OwnRows
namespace Go.Proofs.Ytjhggglaglpgfaa
open Go.RowKit Go.Deep Go.Joins Go.ChangeShapes Go.WideShapes Go.ChangeAt
set_option linter.unusedVariables false

/-- The gates of a slice: the first one's holder, its least number and its kids, and the others. -/
inductive Fo where
  | nil : Fo
  | cons (h l : Int) (kids rest : Fo) : Fo
namespace Fo
def len : Fo → Nat
  | nil => 0
  | cons _ _ _ r => r.len + 1
def size : Fo → Nat
  | nil => 0
  | cons _ _ k r => k.size + r.size + 1
def hAt : Fo → Nat → Int
  | nil, _ => 0
  | cons h _ _ _, 0 => h
  | cons _ _ _ r, i + 1 => r.hAt i
def lAt : Fo → Nat → Int
  | nil, _ => 0
  | cons _ l _ _, 0 => l
  | cons _ _ _ r, i + 1 => r.lAt i
def kAt : Fo → Nat → Fo
  | nil, _ => nil
  | cons _ _ k _, 0 => k
  | cons _ _ _ r, i + 1 => r.kAt i
/-- The nodes of the first gates. -/
def pre : Fo → Nat → Nat
  | nil, _ => 0
  | cons _ _ _ _, 0 => 0
  | cons _ _ k r, i + 1 => k.size + 1 + r.pre i
theorem pre_zero (f : Fo) : f.pre 0 = 0 := by cases f <;> rfl
theorem pre_succ (f : Fo) {i : Nat} (h : i < f.len) : f.pre (i + 1) = f.pre i + (f.kAt i).size + 1 := by
  induction f generalizing i with
  | nil => simp [len] at h
  | cons a l k r _ ih =>
    cases i with
    | zero => simp [pre, kAt, pre_zero]
    | succ i =>
      have := ih (i := i) (by simp [len] at h; omega)
      simp only [pre, kAt] at this ⊢
      omega
theorem pre_len (f : Fo) : f.pre f.len = f.size := by
  induction f with
  | nil => rfl
  | cons a l k r _ ih => simp only [len, pre, size, ih]; omega
theorem pre_le (f : Fo) (i : Nat) : f.pre i ≤ f.size := by
  induction f generalizing i with
  | nil => simp [pre]
  | cons a l k r _ ih =>
    cases i with
    | zero => simp [pre]
    | succ i => have := ih i; simp only [pre, size]; omega
theorem le_pre (f : Fo) {i : Nat} (h : i ≤ f.len) : i ≤ f.pre i := by
  induction f generalizing i with
  | nil => simp [len] at h; omega
  | cons a l k r _ ih =>
    cases i with
    | zero => omega
    | succ i => have := ih (i := i) (by simp [len] at h; omega); simp only [pre]; omega
theorem len_le (f : Fo) : f.len ≤ f.size := by have := f.le_pre (Nat.le_refl f.len); rw [f.pre_len] at this; exact this
theorem k_size (f : Fo) {i : Nat} (h : i < f.len) : (f.kAt i).size < f.size := by
  have h1 := f.pre_succ h
  have h2 := f.pre_le (i + 1)
  omega
theorem len_zero {f : Fo} (h : f.len = 0) : f = nil := by
  cases f with
  | nil => rfl
  | cons => simp [len] at h
/-- All lengths are lengths. -/
def wide : Fo → Prop
  | nil => True
  | cons _ _ k r => k.len ≤ 9223372036854775807 ∧ k.wide ∧ r.wide
theorem wide_get {f : Fo} (h : f.wide) {i : Nat} (hi : i < f.len) : (f.kAt i).len ≤ 9223372036854775807 ∧ (f.kAt i).wide := by
  induction f generalizing i with
  | nil => simp [len] at hi
  | cons a l k r _ ih =>
    cases i with
    | zero => exact ⟨h.1, h.2.1⟩
    | succ i => exact ih h.2.2 (by simp [len] at hi; omega)
end Fo

/-- How gates lie in memory, from a cell on; all blocks behind it are from B on. -/
def FAt (W : World) (B : Nat) : Fo → Nat → Nat → Prop
  | .nil, _, _ => True
  | .cons h l k r, b, o => W.cell? ⟨b, o, none⟩ = some (.int .i64 h) ∧ W.cell? ⟨b, o + 1, none⟩ = some (.int .i64 l) ∧
      (∃ (a : Option Addr) (c : Nat), W.cell? ⟨b, o + 2, none⟩ = some (.slice a k.len c) ∧ (k = .nil ∨ ∃ b' o', a = some ⟨b', o', none⟩ ∧ B ≤ b' ∧ FAt W B k b' o')) ∧ FAt W B r b (o + 3)
/-- The gates of a slice. -/
def Kids (W : World) (B : Nat) (a : Option Addr) (f : Fo) : Prop := f = .nil ∨ ∃ b o, a = some ⟨b, o, none⟩ ∧ B ≤ b ∧ FAt W B f b o
theorem FAt.get {W : World} {B : Nat} {f : Fo} {b o : Nat} (h : FAt W B f b o) {i : Nat} (hi : i < f.len) :
    W.cell? ⟨b, o + i * 3, none⟩ = some (.int .i64 (f.hAt i)) ∧ W.cell? ⟨b, o + i * 3 + 1, none⟩ = some (.int .i64 (f.lAt i)) ∧
      ∃ (a : Option Addr) (c : Nat), W.cell? ⟨b, o + i * 3 + 2, none⟩ = some (.slice a (f.kAt i).len c) ∧ Kids W B a (f.kAt i) := by
  induction f generalizing i o with
  | nil => simp [Fo.len] at hi
  | cons x l k r _ ih =>
    cases i with
    | zero =>
      simp only [Nat.zero_mul, Nat.add_zero, Fo.hAt, Fo.lAt, Fo.kAt]
      obtain ⟨h1, h2, ⟨a, c, h3, h4⟩, _⟩ := h
      exact ⟨h1, h2, a, c, h3, h4⟩
    | succ i =>
      have := ih h.2.2.2 (i := i) (by simp [Fo.len] at hi; omega)
      rw [show o + 3 + i * 3 = o + (i + 1) * 3 by omega] at this
      exact this
theorem FAt.of {W : World} {B : Nat} {f : Fo} {b o : Nat} (h : ∀ i, i < f.len → W.cell? ⟨b, o + i * 3, none⟩ = some (.int .i64 (f.hAt i)) ∧ W.cell? ⟨b, o + i * 3 + 1, none⟩ = some (.int .i64 (f.lAt i)) ∧
      ∃ (a : Option Addr) (c : Nat), W.cell? ⟨b, o + i * 3 + 2, none⟩ = some (.slice a (f.kAt i).len c) ∧ Kids W B a (f.kAt i)) : FAt W B f b o := by
  induction f generalizing o with
  | nil => trivial
  | cons x l k r _ ih =>
    have h0 := h 0 (by simp [Fo.len])
    simp only [Nat.zero_mul, Nat.add_zero, Fo.hAt, Fo.lAt, Fo.kAt] at h0
    refine ⟨h0.1, h0.2.1, h0.2.2, ih fun i hi => ?_⟩
    have := h (i + 1) (by simp [Fo.len]; omega)
    rw [show o + (i + 1) * 3 = o + 3 + i * 3 by omega] at this
    exact this
theorem FAt.map {W W' : World} {B B' : Nat} {f : Fo} {b o : Nat} (h : FAt W B f b o) (hb : B ≤ b) (hB : B' ≤ B) (hk : ∀ (p : Addr) (v : Value), B ≤ p.block → W.cell? p = some v → W'.cell? p = some v) : FAt W' B' f b o := by
  induction f generalizing b o with
  | nil => trivial
  | cons x l k r ihk ihr =>
    obtain ⟨h1, h2, ⟨a, c, h3, h4⟩, h5⟩ := h
    refine ⟨hk _ _ hb h1, hk _ _ hb h2, ⟨a, c, hk _ _ hb h3, ?_⟩, ihr h5 hb⟩
    rcases h4 with h4 | ⟨b', o', e, hb', h6⟩
    · exact .inl h4
    · exact .inr ⟨b', o', e, Nat.le_trans hB hb', ihk h6 hb'⟩
theorem Kids.map {W W' : World} {B B' : Nat} {a : Option Addr} {f : Fo} (h : Kids W B a f) (hB : B' ≤ B) (hk : ∀ (p : Addr) (v : Value), B ≤ p.block → W.cell? p = some v → W'.cell? p = some v) : Kids W' B' a f := by
  rcases h with h | ⟨b, o, e, hb, h⟩
  · exact .inl h
  · exact .inr ⟨b, o, e, Nat.le_trans hB hb, h.map hb hB hk⟩
theorem Kids.step {W W' : World} {B : Nat} {a : Option Addr} {f : Fo} (h : Kids W B a f) (hb : Below W.heap.size W W') : Kids W' B a f := h.map (Nat.le_refl _) fun _ _ _ hc => cell_step hb hc
theorem Kids.mono {W : World} {B B' : Nat} {a : Option Addr} {f : Fo} (h : Kids W B a f) (hB : B' ≤ B) : Kids W B' a f := h.map hB fun _ _ _ hc => hc
theorem Kids.below {C B : Nat} {W W' : World} {a : Option Addr} {f : Fo} (h : Kids W B a f) (hb : Below C W W') (hC : W.heap.size ≤ C) : Kids W' B a f := h.step (hb.mono hC)
theorem Kids.setCell {W : World} {B : Nat} {a : Option Addr} {f : Fo} (h : Kids W B a f) {p : Addr} (hp : p.block < B) (u : Value) : Kids (W.setCell p u) B a f := h.map (Nat.le_refl _) fun q v hq hc => by
  rw [World.cell?_of_block (Below.heap_setCell _ _ _ q.block (fun e => by omega))]; exact hc
theorem Kids.nil (W : World) (B : Nat) (a : Option Addr) : Kids W B a .nil := .inl rfl

theorem Boxes.g0 {W : World} {B : Nat} {t : TypeId} {v0 v1 v2 : Value} (h : Boxes W B t #[v0, v1, v2]) : W.cell? ⟨B, 0, none⟩ = some v0 := by rw [h.cell]; rfl
theorem Boxes.g1 {W : World} {B : Nat} {t : TypeId} {v0 v1 v2 : Value} (h : Boxes W B t #[v0, v1, v2]) : W.cell? ⟨B, 1, none⟩ = some v1 := by rw [h.cell]; rfl
theorem Boxes.g2 {W : World} {B : Nat} {t : TypeId} {v0 v1 v2 : Value} (h : Boxes W B t #[v0, v1, v2]) : W.cell? ⟨B, 2, none⟩ = some v2 := by rw [h.cell]; rfl
theorem Boxes.gf {W : World} {B : Nat} {t : TypeId} {vs : Array Value} (h : Boxes W B t vs) (i : Nat) : W.frozen? ⟨B, i, none⟩ = false := by simp [World.frozen?, show W.heap[B]? = _ from h]
theorem Try.infoGate : (Try.prog.info? 28).map (fun i => (i.zero, i.size, i.bytes)) = some (some (.agg #[.int .i64 0, .int .i64 0, .slice none 0 0]), 3, 40) := by kernel_rfl

/-- 'make' of elements of three cells. -/
theorem run_make3 {P : Program} (t e : TypeId) (z : Value) (bytes : Nat) (ht : P.underlying t = some (.slice e)) (hinfo : (P.info? e).map (fun i => (i.zero, i.size, i.bytes)) = some (some z, 3, bytes))
    (kl kc : IntKind) (n : Nat) (hbytes : bytes * n ≤ 281474976710656) (h63 : n ≤ 9223372036854775807) (w : World) :
    (Instr.makeSlice t (.int kl (n : Int)) (.int kc (n : Int))).run P w = .ok (.slice (some ⟨w.heap.size, 0, none⟩) n n) (w.alloc (.cells (madeCells z.cells (n * 3)) e)) := by
  obtain ⟨i, hi, hzz⟩ := Option.map_eq_some_iff.1 hinfo
  simp only [Prod.mk.injEq] at hzz
  obtain ⟨hz, hs, hb⟩ := hzz
  have hb' : (i.bytes : Int) * (n : Int) ≤ 281474976710656 := by
    have h : ((i.bytes * n : Nat) : Int) ≤ 281474976710656 := by rw [hb]; omega
    rwa [Int.natCast_mul] at h
  have hr := run_make (P := P) w t e i z ht hi hz kl kc n n (by omega) (Int.le_refl _) hb' (by omega)
  simp only [Int.toNat_natCast, hs] at hr
  exact hr
theorem rowIs_made3 (w : World) (z : Array Value) (n : Nat) (t : TypeId) : ∃ F, (w.alloc (.cells (madeCells z n) t)).rowIs w.heap.size t n F :=
  ⟨fun i => (madeCells z n)[i]?.getD (.int .i64 0), _, blk_alloc_new _ _, size_madeCells _ _, fun i hi => by
    simp [Array.getElem?_eq_getElem (show i < (madeCells z n).size by rw [size_madeCells]; exact hi)]⟩

section
variable {H : Type} {enc : TypeId × Value → H} {w : World} {base : Nat} {held : Bool}
set_option maxRecDepth 100000 in
theorem trod_three {t : TypeId} {f0 f1 f2 : Field} {fuel : Nat} {cs : List Value} {x : DataW H × List MemPlace} (hs : Try.prog.underlying t = some (.struct #[f0, f1, f2])) (hone : oneCellFields Try.prog #[f0, f1, f2] = true) (hC : Try.prog.cellsOf t = 3)
    (h : DataW.trod enc Try.prog w base (fun _ => true) held fuel t cs = some x) : ∃ (v0 v1 v2 : Value) (y0 y1 y2 : DataW H × List MemPlace) (n : Nat), fuel = n + 1 ∧ cs = [v0, v1, v2] ∧
      DataW.trod enc Try.prog w base (fun _ => true) held n f0.type [v0] = some y0 ∧ DataW.trod enc Try.prog w base (fun _ => true) held n f1.type [v1] = some y1 ∧ DataW.trod enc Try.prog w base (fun _ => true) held n f2.type [v2] = some y2 := by
  obtain ⟨xs, n, hfu, _, hl, hxl, hf⟩ := DataW.trod_struct hs h
  rw [hC] at hl
  obtain ⟨o0, k0⟩ := hone_of hone 0 f0 rfl
  obtain ⟨o1, k1⟩ := hone_of hone 1 f1 rfl
  obtain ⟨o2, k2⟩ := hone_of hone 2 f2 rfl
  match cs, hl, xs, hxl with
  | [v0, v1, v2], _, [y0, y1, y2], _ => exact ⟨v0, v1, v2, y0, y1, y2, n, hfu, rfl, by simpa [o0, k0] using hf 0 f0 rfl, by simpa [o1, k1] using hf 1 f1 rfl, by simpa [o2, k2] using hf 2 f2 rfl⟩
set_option maxRecDepth 100000 in
/-- GATES THAT ARE GIVEN, OPENED. -/
theorem open_kids : ∀ (fuel : Nat) {a : Option Addr} {n c : Nat} {x : DataW H × List MemPlace}, DataW.trod enc Try.prog w base (fun _ => true) held fuel 22 [.slice a n c] = some x → ∃ f : Fo, n = f.len ∧ Kids w 0 a f ∧ n ≤ 9223372036854775807 ∧ f.wide := by
  intro fuel
  induction fuel using Nat.strongRecOn with
  | _ fuel ih =>
    intro a n c x h
    rcases DataW.trod_slice Try.underlying22 h with ⟨hcs, _⟩ | ⟨a', len, cap, elems, rest, n', hfuel, hcs, _, hb, hl, hm, hlen, hel, _, _⟩
    · simp at hcs
      obtain ⟨rfl, rfl, rfl⟩ := hcs
      exact ⟨.nil, rfl, .inl rfl, by omega, trivial⟩
    · simp at hcs
      obtain ⟨rfl, rfl, rfl⟩ := hcs
      subst hfuel
      have hm' : c ≤ 9223372036854775807 := hm
      have hC : Try.prog.cellsOf 24 = 3 := by kernel_rfl
      rw [hC] at hel
      have each : ∀ i, i < n → ∃ (g l : Int) (a2 : Option Addr) (c2 : Nat) (k : Fo), w.cell? (a'.add (i * 3)) = some (.int .i64 g) ∧ w.cell? ((a'.add (i * 3)).add 1) = some (.int .i64 l) ∧ w.cell? ((a'.add (i * 3)).add 2) = some (.slice a2 k.len c2) ∧ Kids w 0 a2 k ∧ k.len ≤ 9223372036854775807 ∧ k.wide := by
        intro i hi
        have he := hel i hi
        rw [List.getElem?_eq_getElem (by omega)] at he
        obtain ⟨cs, h1, h2⟩ := Option.bind_eq_some_iff.1 he
        obtain ⟨_, hl3, hcc⟩ := World.cells?_some h1
        obtain ⟨v0, v1, v2, y0, y1, y2, n2, rfl, rfl, f0, f1, f2⟩ := trod_three Try.underlying24 (by kernel_rfl) hC h2
        obtain ⟨g, e0, _, _⟩ := DataW.trod_int Try.underlying2 f0
        obtain ⟨l, e1, _, _⟩ := DataW.trod_int Try.underlying2 f1
        obtain ⟨a2, n3, c2, e2⟩ := slice_form Try.underlying22 f2
        simp at e0 e1 e2
        subst e0 e1 e2
        obtain ⟨k, rfl, hk, hw⟩ := ih n2 (by omega) f2
        have g0 := hcc 0 (by omega)
        have g1 := hcc 1 (by omega)
        have g2 := hcc 2 (by omega)
        exact ⟨g, l, a2, c2, k, by simpa [Addr.add] using g0, g1, g2, hk, hw⟩
      by_cases h0 : n = 0
      · subst h0; exact ⟨.nil, rfl, .inl rfl, by omega, trivial⟩
      obtain ⟨b, o, sp⟩ := a'
      have hsp : sp = none := by
        obtain ⟨_, _, _, _, _, h1, _⟩ := each 0 (by omega)
        simpa [Addr.add] using World.cell?_spot h1
      subst hsp
      have build : ∀ m i, i + m = n → ∃ f : Fo, f.len = m ∧ FAt w 0 f b (o + i * 3) ∧ f.wide := by
        intro m
        induction m with
        | zero => exact fun i _ => ⟨.nil, rfl, trivial, trivial⟩
        | succ m ihm =>
          intro i hi
          obtain ⟨f, hf, hF, hW⟩ := ihm (i + 1) (by omega)
          obtain ⟨g, l, a2, c2, k, h1, h2, h3, h4, h5⟩ := each i (by omega)
          rw [show o + (i + 1) * 3 = o + i * 3 + 3 by omega] at hF
          exact ⟨.cons g l k f, by simp [Fo.len, hf], ⟨by simpa [add_plain] using h1, by simpa [add_plain, Nat.add_assoc] using h2, ⟨a2, c2, by simpa [add_plain, Nat.add_assoc] using h3, h4⟩, hF⟩, h5.1, h5.2, hW⟩
      obtain ⟨f, hf, hF, hW⟩ := build n 0 (by omega)
      exact ⟨f, hf.symm, .inr ⟨b, o, rfl, Nat.zero_le _, by simpa using hF⟩, by omega, hW⟩
set_option maxRecDepth 100000 in
/-- A GATE BY VALUE, OPENED. -/
theorem open_gate {r : Reach} {b0 : Nat} {v : Value} {d : DataW H} {p : List MemPlace} (hv : Value.okWide Try.prog w r b0 24 v) (h : DataW.Trod enc Try.prog w base (fun _ => true) held 24 v d p) :
    ∃ (hh ll : Int) (a : Option Addr) (f : Fo) (c : Nat), v = .agg #[.int .i64 hh, .int .i64 ll, .slice a f.len c] ∧ Kids w 0 a f ∧ f.len ≤ 9223372036854775807 ∧ f.wide := by
  obtain ⟨c0, c1, c2, y0, y1, y2, m, rfl, _, _, hy0, hy1, hy2⟩ := open_agg3 Try.underlying24 (by kernel_rfl) (by kernel_rfl) hv h
  obtain ⟨hh, e0, _, wh⟩ := DataW.trod_int Try.underlying2 hy0
  obtain ⟨ll, e1, _, wl⟩ := DataW.trod_int Try.underlying2 hy1
  obtain ⟨a, n, c, e2⟩ := slice_form Try.underlying22 hy2
  simp at e0 e1 e2
  subst e0 e1 e2
  obtain ⟨f, rfl, hk, hl, hw⟩ := open_kids _ hy2
  exact ⟨hh, ll, a, f, c, rfl, hk, hl, hw⟩
end
end Go.Proofs.Ytjhggglaglpgfaa
