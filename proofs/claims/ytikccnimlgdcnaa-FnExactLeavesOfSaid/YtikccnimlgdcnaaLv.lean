/- LeavesOf, the program's and the model's. -/
import Derived.Test.YtikccnimlgdcnaaAs
namespace Go.Proofs.Ytikccnimlgdcnaa
open Go.RowKit Go.Deep
set_option linter.unusedVariables false

namespace Fo
/-- How many leaves a holder has among gates. -/
def leaves (j : Nat) : Fo → Nat
  | nil => 0
  | cons h l k r => (match k with | nil => (decide (h = (j : Int))).toNat | cons a b c d => (cons a b c d).leaves j) + r.leaves j
/-- How many leaves a holder has in a gate. -/
def gleaves (j : Nat) (h : Int) (k : Fo) : Nat := match k with | nil => (decide (h = (j : Int))).toNat | cons a b c d => (cons a b c d).leaves j
def lpre (j : Nat) : Fo → Nat → Nat
  | nil, _ => 0
  | cons _ _ _ _, 0 => 0
  | cons h _ k r, i + 1 => gleaves j h k + r.lpre j i
theorem leaves_cons (j : Nat) (h l : Int) (k r : Fo) : (cons h l k r).leaves j = gleaves j h k + r.leaves j := by
  cases k <;> rfl
theorem lpre_zero (j : Nat) (f : Fo) : f.lpre j 0 = 0 := by cases f <;> rfl
theorem lpre_succ (j : Nat) (f : Fo) {i : Nat} (h : i < f.len) : f.lpre j (i + 1) = f.lpre j i + gleaves j (f.hAt i) (f.kAt i) := by
  induction f generalizing i with
  | nil => simp [len] at h
  | cons a l k r _ ih =>
    cases i with
    | zero => simp [lpre, hAt, kAt, lpre_zero]
    | succ i =>
      have := ih (i := i) (by simp [len] at h; omega)
      simp only [lpre, hAt, kAt] at this ⊢
      omega
theorem lpre_len (j : Nat) (f : Fo) : f.lpre j f.len = f.leaves j := by
  induction f with
  | nil => rfl
  | cons a l k r _ ih => rw [leaves_cons]; simp only [len, lpre, ih]
theorem leaves_le (j : Nat) (f : Fo) : f.leaves j ≤ f.size := by
  induction f with
  | nil => simp [leaves]
  | cons a l k r ihk ihr =>
    rw [leaves_cons]
    have h1 : gleaves j a k ≤ k.size + 1 := by
      cases k with
      | nil => exact Nat.le_trans (Bool.toNat_le _) (by simp [size])
      | cons x y z u => exact Nat.le_trans ihk (Nat.le_succ _)
    simp only [size]
    omega
theorem lpre_le (j : Nat) (f : Fo) (i : Nat) : f.lpre j i ≤ f.size := by
  induction f generalizing i with
  | nil => simp [lpre]
  | cons a l k r _ ih =>
    cases i with
    | zero => simp [lpre]
    | succ i =>
      have h1 : gleaves j a k ≤ k.size + 1 := by
        cases k with
        | nil => exact Nat.le_trans (Bool.toNat_le _) (by simp [size])
        | cons x y z u => exact Nat.le_trans (leaves_le j _) (Nat.le_succ _)
      have := ih i
      simp only [lpre, size]
      omega
theorem gleaves_some (j : Nat) (h : Int) {k : Fo} (hk : 0 < k.len) : gleaves j h k = k.leaves j := by
  cases k with
  | nil => simp [len] at hk
  | cons => rfl
theorem gleaves_le (j : Nat) (h : Int) (k : Fo) : gleaves j h k ≤ k.size + 1 := by
  cases k with
  | nil => exact Nat.le_trans (Bool.toNat_le _) (by simp [size])
  | cons x y z u => exact Nat.le_trans (leaves_le j _) (Nat.le_succ _)
theorem lpre_pre (j : Nat) {f : Fo} {k : Nat} (h : k < f.len) : f.lpre j k ≤ f.pre k := by
  induction f generalizing k with
  | nil => simp [lpre]
  | cons a l kk r _ ihr =>
    cases k with
    | zero => simp [lpre]
    | succ k =>
      have h1 : gleaves j a kk ≤ kk.size + 1 := gleaves_le j a kk
      have := ihr (k := k) (by simp [len] at h; omega)
      simp only [lpre, pre]
      omega
end Fo

/-- What has been counted: only the counts' block has turned. -/
structure Counted (W : World) (cb n : Nat) (x : Nat → Int) (e : Ending) (W' : World) : Prop where
  val : e = .returned (.tuple #[])
  row : W'.rowIs cb 2 n (fun i => .int .i64 (x i))
  touch : Touch cb (cb + 1) W W'

theorem touch_set (cb q : Nat) (v : Value) (w : World) : Touch cb (cb + 1) w (w.setCell ⟨cb, q, none⟩ v) := ⟨rfl, rfl, rfl, by simp, fun k _ hk => Below.heap_setCell _ _ _ k (fun e => by simp at e; omega)⟩
/-- Gates in blocks of which something is known. -/
def QAt (W : World) (ok : Nat → Prop) : Fo → Nat → Nat → Prop
  | .nil, _, _ => True
  | .cons h l k r, b, o => W.cell? ⟨b, o, none⟩ = some (.int .i64 h) ∧ W.cell? ⟨b, o + 1, none⟩ = some (.int .i64 l) ∧
      (∃ (a : Option Addr) (c : Nat), W.cell? ⟨b, o + 2, none⟩ = some (.slice a k.len c) ∧ (k = .nil ∨ ∃ b' o', a = some ⟨b', o', none⟩ ∧ ok b' ∧ QAt W ok k b' o')) ∧ QAt W ok r b (o + 3)
def KidsQ (W : World) (ok : Nat → Prop) (a : Option Addr) (f : Fo) : Prop := f = .nil ∨ ∃ b o, a = some ⟨b, o, none⟩ ∧ ok b ∧ QAt W ok f b o
theorem QAt.get {W : World} {ok : Nat → Prop} {f : Fo} {b o : Nat} (h : QAt W ok f b o) {i : Nat} (hi : i < f.len) :
    W.cell? ⟨b, o + i * 3, none⟩ = some (.int .i64 (f.hAt i)) ∧ W.cell? ⟨b, o + i * 3 + 1, none⟩ = some (.int .i64 (f.lAt i)) ∧
      ∃ (a : Option Addr) (c : Nat), W.cell? ⟨b, o + i * 3 + 2, none⟩ = some (.slice a (f.kAt i).len c) ∧ KidsQ W ok a (f.kAt i) := by
  induction f generalizing i o with
  | nil => simp [Fo.len] at hi
  | cons x l k r _ ih =>
    cases i with
    | zero =>
      simp only [Nat.zero_mul, Nat.add_zero, Fo.hAt, Fo.lAt, Fo.kAt]
      obtain ⟨h1, h2, ⟨a, c, h3, h4⟩, _⟩ := h
      exact ⟨h1, h2, a, c, h3, h4⟩
    | succ i =>
      have := ih h.2.2.2 (i := i) (by simp [Fo.len] at hi; omega)
      rw [show o + 3 + i * 3 = o + (i + 1) * 3 by omega] at this
      exact this
theorem QAt.touch {lo hi : Nat} {W W' : World} {ok : Nat → Prop} (ht : Touch lo hi W W') (hok : ∀ b, ok b → b < lo ∨ hi ≤ b) {f : Fo} {b o : Nat} (h : QAt W ok f b o) (hb : ok b) : QAt W' ok f b o := by
  induction f generalizing b o with
  | nil => trivial
  | cons x l k r ihk ihr =>
    obtain ⟨h1, h2, ⟨a, c, h3, h4⟩, h5⟩ := h
    refine ⟨ht.cell h1 (hok _ hb), ht.cell h2 (hok _ hb), ⟨a, c, ht.cell h3 (hok _ hb), ?_⟩, ihr h5 hb⟩
    rcases h4 with h4 | ⟨b', o', e, hb', h6⟩
    · exact .inl h4
    · exact .inr ⟨b', o', e, hb', ihk h6 hb'⟩
theorem KidsQ.touch {lo hi : Nat} {W W' : World} {ok : Nat → Prop} (ht : Touch lo hi W W') (hok : ∀ b, ok b → b < lo ∨ hi ≤ b) {a : Option Addr} {f : Fo} (h : KidsQ W ok a f) : KidsQ W' ok a f := by
  rcases h with h | ⟨b, o, e, hb, h⟩
  · exact .inl h
  · exact .inr ⟨b, o, e, hb, h.touch ht hok hb⟩
theorem FAt.qat {W : World} {B : Nat} {f : Fo} {b o : Nat} (h : FAt W B f b o) : QAt W (· < W.heap.size) f b o := by
  induction f generalizing b o with
  | nil => trivial
  | cons x l k r ihk ihr =>
    obtain ⟨h1, h2, ⟨a, c, h3, h4⟩, h5⟩ := h
    refine ⟨h1, h2, ⟨a, c, h3, ?_⟩, ihr h5⟩
    rcases h4 with h4 | ⟨b', o', e, hb', h6⟩
    · exact .inl h4
    · refine (Classical.em (k = .nil)).elim .inl fun hn => .inr ⟨b', o', e, ?_, ihk h6⟩
      cases k with
      | nil => exact absurd rfl hn
      | cons y m k2 r2 => exact World.block_lt_of_cell? _ _ h6.1
theorem Kids.kidsQ {W : World} {B : Nat} {a : Option Addr} {f : Fo} (h : Kids W B a f) : KidsQ W (· < W.heap.size) a f := by
  rcases h with h | ⟨b, o, e, hb, h⟩
  · exact .inl h
  · refine (Classical.em (f = .nil)).elim .inl fun hn => .inr ⟨b, o, e, ?_, h.qat⟩
    cases f with
    | nil => exact absurd rfl hn
    | cons y m k2 r2 => exact World.block_lt_of_cell? _ _ h.1
theorem leaf_row {w : World} {cb n q : Nat} {x : Nat → Int} (hrow : w.rowIs cb 2 n (fun i => .int .i64 (x i))) : (w.setCell ⟨cb, q, none⟩ (.int .i64 (x q + 1))).rowIs cb 2 n (fun i => .int .i64 (x i + Fo.gleaves i (q : Int) .nil)) :=
  (hrow.set q (.int .i64 (x q + 1))).congr (g := fun i => .int .i64 (x i + Fo.gleaves i (q : Int) .nil)) (fun i _ => by
    by_cases e : i = q
    · subst e; simp [Fo.gleaves]
    · have : ¬ ((q : Int) = (i : Int)) := by omega
      simp [Fo.gleaves, e, this])

set_option maxRecDepth 100000 in
set_option maxHeartbeats 2000000 in
theorem l02Leaves_any : ∀ (m : Nat) (f : Fo), f.size < m → m ≤ 1048577 → ∀ (ok : Nat → Prop) (pb po cb n : Nat) (h l : Int) (a : Option Addr) (c cc : Nat) (x : Nat → Int) (w : World), n ≤ 7 → Fo.gform n h l f →
    w.cell? ⟨pb, po, none⟩ = some (.int .i64 h) → w.cell? ⟨pb, po + 2, none⟩ = some (.slice a f.len c) → pb ≠ cb → (∀ b, ok b → b ≠ cb) → KidsQ w ok a f → w.rowIs cb 2 n (fun i => .int .i64 (x i)) → (∀ i, 0 ≤ x i ∧ x i + (f.size + 1 : Nat) ≤ 4194304) →
    Calls Try.prog 32 #[.pointer (some ⟨pb, po, none⟩), .slice (some ⟨cb, 0, none⟩) n cc] w (Counted w cb n (fun i => x i + Fo.gleaves i h f)) := by
  intro m
  induction m with
  | zero => exact fun f hf => absurd hf (Nat.not_lt_zero _)
  | succ m ih =>
    intro f hf hm ok pb po cb n h l a c cc x w hn hg p0 p2 hpc hcB hk hrow hx
    have hpcb : pb < cb ∨ cb + 1 ≤ pb := by omega
    by_cases hz : f.len = 0
    · have hzn := Fo.len_zero hz
      subst hzn
      clear hz
      obtain ⟨g0, g1, g2⟩ := gform_nil.1 hg
      obtain ⟨q, rfl⟩ : ∃ q : Nat, h = (q : Int) := ⟨h.toNat, by omega⟩
      have hq : q < n := by omega
      have hqi : (q : Int) < (n : Int) := by omega
      have hc := hrow.cell hq
      have hf := hrow.frozen q
      have h1 := (hx q).1
      have h2 := (hx q).2
      have HROW := Lib.hid (leaf_row (q := q) hrow)
      have HT := Lib.hid (touch_set cb q (.int .i64 (x q + 1)) w)
      have hxq : x q + 1 ≤ 4194304 := by simp [Fo.size] at h2; omega
      have P2 := Lib.hid (HT.out.cell p2 hpcb)
      generalize x q = xq at hc hxq h1 HROW HT P2
      clear hg hrow hx h2 ih
      go_enter Try.func32, Try.ntmps32
      go_wp2_with fail
      go_loopw [4] (fun i wr => i = .int .i64 0 ∧ wr = w.setCell ⟨cb, q, none⟩ (.int .i64 (xq + 1)))
        (fun i _ => 0)
      case atStart => exact ⟨rfl, rfl⟩
      case round =>
        obtain ⟨rfl, rfl⟩ := hrel
        have p3 := P2.out
        go_wp2_with fail
        go_end0
        exact ⟨rfl, HROW.out, HT.out⟩
    have hpos : 0 < f.len := by omega
    have s0 : (f.len == 0) = false := by simp; omega
    have s1 : ((f.len : Int) == 0) = false := by simp; omega
    have HIH := Lib.hid ih
    have HK := Lib.hid hk
    have HF := Lib.hid ((gform_some hpos).1 hg).2.2.2
    have HX := Lib.hid hx
    have HROW := Lib.hid hrow
    have HS := Lib.hid (fun j => Fo.gleaves_some j h hpos)
    have HP2 := Lib.hid p2
    have hlen := f.len_le
    clear ih hk hg hx hrow hz
    go_enter Try.func32, Try.ntmps32
    go_wp2_with fail
    clear p2
    go_loopw [4] (fun i wr => ∃ (k : Nat), k ≤ f.len ∧ i = .int .i64 k ∧ wr.rowIs cb 2 n (fun i => .int .i64 (x i + f.lpre i k)) ∧ Touch cb (cb + 1) w wr)
      (fun i _ => f.len - (intOf i).toNat)
    case atStart => exact ⟨0, Nat.zero_le _, rfl, HROW.out.congr (fun i _ => by rw [f.lpre_zero]; simp), Touch.refl _ _ _⟩
    case round =>
      obtain ⟨k, hk, rfl, hr, ht⟩ := hrel
      have HR := Lib.hid hr
      have HT := Lib.hid ht
      have p3 := ht.cell HP2.out hpcb
      clear hr ht
      by_cases hlt : k < f.len
      · rcases (KidsQ.touch HT.out (fun b hb => by have := hcB b hb; omega) HK.out) with h | ⟨b, o, rfl, hB, hF⟩
        · rw [h] at hlt; exact absurd hlt (Nat.not_lt_zero _)
        obtain ⟨g1, g2, ai, ci, g3, g4⟩ := hF.get hlt
        have hs := f.k_size hlt
        have HL := Lib.hid (fun j => f.lpre_succ j hlt)
        have HGF := Lib.hid (Fo.form_get HF.out hlt)
        have HG4 := Lib.hid g4
        have HB := Lib.hid (show ∀ i, 0 ≤ x i + f.lpre i k ∧ x i + f.lpre i k + ((f.kAt k).size + 1 : Nat) ≤ 4194304 from fun i => by
          have h1 := HX.out i
          have h3 := Fo.lpre_pre i hlt
          have h4 := f.pre_succ hlt
          have h5 := f.pre_le (k + 1)
          omega)
        have hi0 : (k : Int) < (f.len : Int) := by omega
        have hbc : b ≠ cb := hcB b hB
        clear g4 hF
        generalize f.hAt k = gh at *
        generalize f.lAt k = gl at *
        generalize f.kAt k = gk at *
        go_wp2_with fail
        refine (HIH.out gk (by omega) (by omega) ok b (o + k * 3) cb n gh gl ai ci cc (fun i => x i + f.lpre i k) wr hn HGF.out g1 g3 hbc hcB HG4.out HR.out HB.out).mono ?_
        rintro e w4 ⟨rfl, hr4, ht4⟩
        have HR4 := Lib.hid (hr4.congr (g := fun i => .int .i64 (x i + f.lpre i (k + 1))) (fun i _ => by show Value.int .i64 _ = .int .i64 _; rw [HL.out i]; congr 1; simp; omega))
        have HT4 := Lib.hid (HT.out.trans ht4)
        clear hr4 ht4 g1 g2 g3
        go_wp2_with fail
        go_roundw
        case rel => exact ⟨k + 1, by omega, by go_num, HR4.out, HT4.out⟩
        case measure => simp [intOf]; omega
      · have hE : k = f.len := by omega
        go_wp2_with fail
        go_end0
        exact ⟨rfl, HR.out.congr (fun i _ => by show Value.int .i64 _ = .int .i64 _; rw [hE, f.lpre_len, HS.out i]), HT.out⟩

set_option maxRecDepth 100000 in
set_option maxHeartbeats 2000000 in
theorem countLeaves_any : ∀ (m : Nat) (f : Fo), f.size < m → m ≤ 1048577 → ∀ (ok : Nat → Prop) (cb n : Nat) (h l : Int) (cc : Nat) (x : Nat → Int) (t : TypeId) (v : Value) (w : World), n ≤ 7 → Fo.gform n h l f →
    (∀ b, ok b → b ≠ cb) → NV w ok h l f (.iface t v) → w.rowIs cb 2 n (fun i => .int .i64 (x i)) → (∀ i, 0 ≤ x i ∧ x i + (f.size + 1 : Nat) ≤ 4194304) →
    Calls Try.prog 33 #[.iface t v, .slice (some ⟨cb, 0, none⟩) n cc] w (Counted w cb n (fun i => x i + Fo.gleaves i h f)) := by
  intro m
  induction m with
  | zero => exact fun f hf => absurd hf (Nat.not_lt_zero _)
  | succ m ih =>
    intro f hf hm ok cb n h l cc x t v w hn hg hok hv hrow hx
    have hcw : cb < w.heap.size := hrow.lt
    rcases hv with ⟨rfl, e⟩ | ⟨hne, b', o', c, e, hb', h4⟩
    · cases e
      obtain ⟨g0, g1, g2⟩ := gform_nil.1 hg
      obtain ⟨q, rfl⟩ : ∃ q : Nat, h = (q : Int) := ⟨h.toNat, by omega⟩
      have hq : q < n := by omega
      have hqi : (q : Int) < (n : Int) := by omega
      have hb := (Below.refl w.heap.size w).alloc (Nat.le_refl _) (.cells #[.int .i64 (q : Int)] 72)
      have hrow1 := rowIs_below hrow hb hcw
      have hbs := (Below.refl (w.setCell ⟨cb, q, none⟩ (.int .i64 (x q + 1))).heap.size (w.setCell ⟨cb, q, none⟩ (.int .i64 (x q + 1)))).alloc (Nat.le_refl _) (.cells #[.int .i64 (q : Int)] 72)
      have HT := Lib.hid ((touch_set cb q (.int .i64 (x q + 1)) w).trans (Touch.of_below cb (cb + 1) hbs))
      have hc := hrow1.cell hq
      have hf := hrow1.frozen q
      have hl1 := hrow1.lt
      have h1 := (hx q).1
      have h2 := (hx q).2
      have HROW := Lib.hid (rowIs_below (leaf_row (q := q) hrow) hbs (by simpa using hcw))
      have hxq : x q + 1 ≤ 4194304 := by simp [Fo.size] at h2; omega
      clear hbs
      generalize x q = xq at hc hxq h1 HROW HT
      clear hg hrow hx h2 ih hrow1
      have ta1 := assert_ll
      have ta2 := assert_tl
      have ta3 := assert_tt
      go_enter Try.func33, Try.ntmps33
      go_wp2_with fail
      go_end0
      exact ⟨rfl, HROW.out, HT.out⟩
    · cases e
      have hpos : 0 < f.len := by
        cases f with
        | nil => exact absurd rfl hne
        | cons => exact Nat.succ_pos _
      have hb := (Below.refl w.heap.size w).alloc (Nat.le_refl _) (.cells #[.int .i64 l, .slice (some ⟨b', o', none⟩) f.len c] 75)
      have HIH := Lib.hid ih
      have HOK := Lib.hid hok
      have HNA := Lib.hid h4
      have HF := Lib.hid ((gform_some hpos).1 hg).2.2.2
      have HX := Lib.hid hx
      have HROW := Lib.hid (rowIs_below hrow hb hcw)
      have HT0 := Lib.hid (Touch.of_below cb (cb + 1) hb)
      have HS := Lib.hid (fun j => Fo.gleaves_some j h hpos)
      have hlen := f.len_le
      clear ih hok h4 hg hx hrow hne hb
      have ta1 := assert_ll
      have ta2 := assert_tl
      have ta3 := assert_tt
      go_enter Try.func33, Try.ntmps33
      go_wp2_with fail
      generalize w.alloc (.cells #[.int .i64 l, .slice (some ⟨b', o', none⟩) f.len c] 75) = w1 at *
      go_loopw [7, 25] (fun _ i wr => ∃ (k : Nat), k ≤ f.len ∧ i = .int .i64 k ∧ wr.rowIs cb 2 n (fun i => .int .i64 (x i + f.lpre i k)) ∧ Touch cb (cb + 1) w wr)
        (fun _ i _ => f.len - (intOf i).toNat)
      case atStart => exact ⟨0, Nat.zero_le _, rfl, HROW.out.congr (fun i _ => by rw [f.lpre_zero]; simp), HT0.out⟩
      case round =>
        obtain ⟨k, hk, rfl, hr, ht⟩ := hrel
        have HR := Lib.hid hr
        have HT := Lib.hid ht
        clear hr ht HROW HT0
        by_cases hlt : k < f.len
        · have hkeep : ∀ b o u, ok b → w.cell? ⟨b, o, none⟩ = some u → ok b ∧ wr.cell? ⟨b, o, none⟩ = some u := fun b o u q hc => ⟨q, HT.out.cell hc (by have := HOK.out b q; omega)⟩
          obtain ⟨u, h1, h2⟩ := (HNA.out.map hkeep hb').get hlt
          obtain ⟨ut, ux, rfl⟩ := h2.form
          have HNV := Lib.hid h2
          have hs := f.k_size hlt
          have HL := Lib.hid (fun j => f.lpre_succ j hlt)
          have HGF := Lib.hid (Fo.form_get HF.out hlt)
          have HB := Lib.hid (show ∀ i, 0 ≤ x i + f.lpre i k ∧ x i + f.lpre i k + ((f.kAt k).size + 1 : Nat) ≤ 4194304 from fun i => by
            have h1 := HX.out i
            have h3 := Fo.lpre_pre i hlt
            have h4 := f.pre_succ hlt
            have h5 := f.pre_le (k + 1)
            omega)
          have hi0 : (k : Int) < (f.len : Int) := by omega
          clear h2 hkeep
          generalize f.hAt k = gh at *
          generalize f.lAt k = gl at *
          generalize f.kAt k = gk at *
          go_wp2_with fail
          refine (HIH.out gk (by omega) (by omega) ok cb n gh gl cc (fun i => x i + f.lpre i k) ut ux wr hn HGF.out HOK.out HNV.out HR.out HB.out).mono ?_
          rintro e w4 ⟨rfl, hr4, ht4⟩
          have HR4 := Lib.hid (hr4.congr (g := fun i => .int .i64 (x i + f.lpre i (k + 1))) (fun i _ => by show Value.int .i64 _ = .int .i64 _; rw [HL.out i]; congr 1; simp; omega))
          have HT4 := Lib.hid (HT.out.trans ht4)
          clear hr4 ht4 h1
          go_wp2_with fail
          go_roundw
          case rel => exact ⟨k + 1, by omega, by go_num, HR4.out, HT4.out⟩
          case measure => simp [intOf]; omega
        · have hE : k = f.len := by omega
          go_wp2_with fail
          go_end0
          exact ⟨rfl, HR.out.congr (fun i _ => by show Value.int .i64 _ = .int .i64 _; rw [hE, f.lpre_len, HS.out i]), HT.out⟩
end Go.Proofs.Ytikccnimlgdcnaa
