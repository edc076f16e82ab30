/- toGate and toGateS of the laws, so that what they give can be marked; markGate and markGateS. -/
import Derived.Test.YtjhggglaglpgfaaTg
namespace Go.Proofs.Ytjhggglaglpgfaa
open Go.RowKit Go.Deep
set_option linter.unusedVariables false

/-- As 'FAt', and no number is frozen. -/
def MAt (W : World) (B : Nat) : Fo → Nat → Nat → Prop
  | .nil, _, _ => True
  | .cons h l k r, b, o => (W.cell? ⟨b, o, none⟩ = some (.int .i64 h) ∧ W.frozen? ⟨b, o, none⟩ = false) ∧ (W.cell? ⟨b, o + 1, none⟩ = some (.int .i64 l) ∧ W.frozen? ⟨b, o + 1, none⟩ = false) ∧
      (∃ (a : Option Addr) (c : Nat), W.cell? ⟨b, o + 2, none⟩ = some (.slice a k.len c) ∧ (k = .nil ∨ ∃ b' o', a = some ⟨b', o', none⟩ ∧ B ≤ b' ∧ MAt W B k b' o')) ∧ MAt W B r b (o + 3)
def KidsM (W : World) (B : Nat) (a : Option Addr) (f : Fo) : Prop := f = .nil ∨ ∃ b o, a = some ⟨b, o, none⟩ ∧ B ≤ b ∧ MAt W B f b o
theorem MAt.fat {W : World} {B : Nat} {f : Fo} {b o : Nat} (h : MAt W B f b o) : FAt W B f b o := by
  induction f generalizing b o with
  | nil => trivial
  | cons x l k r ihk ihr =>
    obtain ⟨h1, h2, ⟨a, c, h3, h4⟩, h5⟩ := h
    refine ⟨h1.1, h2.1, ⟨a, c, h3, ?_⟩, ihr h5⟩
    rcases h4 with h4 | ⟨b', o', e, hb', h6⟩
    · exact .inl h4
    · exact .inr ⟨b', o', e, hb', ihk h6⟩
theorem KidsM.kids {W : World} {B : Nat} {a : Option Addr} {f : Fo} (h : KidsM W B a f) : Kids W B a f := by
  rcases h with h | ⟨b, o, e, hb, h⟩
  · exact .inl h
  · exact .inr ⟨b, o, e, hb, h.fat⟩
theorem MAt.of {W : World} {B : Nat} {f : Fo} {b o : Nat} (h : ∀ i, i < f.len → (W.cell? ⟨b, o + i * 3, none⟩ = some (.int .i64 (f.hAt i)) ∧ W.frozen? ⟨b, o + i * 3, none⟩ = false) ∧ (W.cell? ⟨b, o + i * 3 + 1, none⟩ = some (.int .i64 (f.lAt i)) ∧ W.frozen? ⟨b, o + i * 3 + 1, none⟩ = false) ∧
      ∃ (a : Option Addr) (c : Nat), W.cell? ⟨b, o + i * 3 + 2, none⟩ = some (.slice a (f.kAt i).len c) ∧ KidsM W B a (f.kAt i)) : MAt W B f b o := by
  induction f generalizing o with
  | nil => trivial
  | cons x l k r _ ih =>
    have h0 := h 0 (by simp [Fo.len])
    simp only [Nat.zero_mul, Nat.add_zero, Fo.hAt, Fo.lAt, Fo.kAt] at h0
    refine ⟨h0.1, h0.2.1, h0.2.2, ih fun i hi => ?_⟩
    have := h (i + 1) (by simp [Fo.len]; omega)
    rw [show o + (i + 1) * 3 = o + 3 + i * 3 by omega] at this
    exact this
theorem MAt.map {W W' : World} {B B' : Nat} {f : Fo} {b o : Nat} (h : MAt W B f b o) (hb : B ≤ b) (hB : B' ≤ B) (hk : ∀ (p : Addr) (v : Value), B ≤ p.block → W.cell? p = some v → W'.cell? p = some v ∧ W'.frozen? p = W.frozen? p) : MAt W' B' f b o := by
  induction f generalizing b o with
  | nil => trivial
  | cons x l k r ihk ihr =>
    obtain ⟨h1, h2, ⟨a, c, h3, h4⟩, h5⟩ := h
    refine ⟨⟨(hk _ _ hb h1.1).1, (hk _ _ hb h1.1).2.trans h1.2⟩, ⟨(hk _ _ hb h2.1).1, (hk _ _ hb h2.1).2.trans h2.2⟩, ⟨a, c, (hk _ _ hb h3).1, ?_⟩, ihr h5 hb⟩
    rcases h4 with h4 | ⟨b', o', e, hb', h6⟩
    · exact .inl h4
    · exact .inr ⟨b', o', e, Nat.le_trans hB hb', ihk h6 hb'⟩
theorem KidsM.map {W W' : World} {B B' : Nat} {a : Option Addr} {f : Fo} (h : KidsM W B a f) (hB : B' ≤ B) (hk : ∀ (p : Addr) (v : Value), B ≤ p.block → W.cell? p = some v → W'.cell? p = some v ∧ W'.frozen? p = W.frozen? p) : KidsM W' B' a f := by
  rcases h with h | ⟨b, o, e, hb, h⟩
  · exact .inl h
  · exact .inr ⟨b, o, e, Nat.le_trans hB hb, h.map hb hB hk⟩
theorem KidsM.step {W W' : World} {B : Nat} {a : Option Addr} {f : Fo} (h : KidsM W B a f) (hb : Below W.heap.size W W') : KidsM W' B a f := h.map (Nat.le_refl _) fun p _ _ hc => ⟨cell_step hb hc, hb.frozen (World.block_lt_of_cell? _ _ hc)⟩
theorem KidsM.mono {W : World} {B B' : Nat} {a : Option Addr} {f : Fo} (h : KidsM W B a f) (hB : B' ≤ B) : KidsM W B' a f := h.map hB fun _ _ _ hc => ⟨hc, rfl⟩
theorem KidsM.setCell {W : World} {B : Nat} {a : Option Addr} {f : Fo} (h : KidsM W B a f) {p : Addr} (hp : p.block < B) (u : Value) : KidsM (W.setCell p u) B a f := h.map (Nat.le_refl _) fun q v hq hc => ⟨by
  rw [World.cell?_of_block (Below.heap_setCell _ _ _ q.block (fun e => by omega))]; exact hc, World.frozen?_setCell _ _ _ _⟩

set_option maxRecDepth 100000 in
theorem toGateM_of (h l : Int) (B : Nat) (a : Option Addr) (k : Fo) (c : Nat) (w : World)
    (hI : ∀ W : World, Kids W B a k → Calls Try.prog 29 #[.slice a k.len c] W fun e w' => (∃ a' c', e = .returned (.slice a' k.len c') ∧ KidsM w' W.heap.size a' k) ∧ Below W.heap.size W w') (hk : Kids w B a k) :
    Calls Try.prog 10 #[.agg #[.int .i64 h, .int .i64 l, .slice a k.len c]] w fun e w' => (∃ a' c', e = .returned (.agg #[.int .i64 h, .int .i64 l, .slice a' k.len c']) ∧ KidsM w' (w.heap.size + 3) a' k) ∧ Below w.heap.size w w' := by
  go_enter Try.func10, Try.ntmps10
  go_wp2_with fail
  have HI := Lib.hid hI
  have HK := Lib.hid hk
  clear hI hk
  have hb3 := (((Below.refl w.heap.size w).alloc (Nat.le_refl _) (.cells #[.int .i64 h, .int .i64 l, .slice a k.len c] 24)).alloc (by simp) (.cells #[.int .i64 0, .int .i64 0, .slice none 0 0] 28)).alloc (by simp; omega) (.cells #[.int .i64 h, .int .i64 l, .slice none 0 0] 28)
  have hs3 : (((w.alloc (.cells #[.int .i64 h, .int .i64 l, .slice a k.len c] 24)).alloc (.cells #[.int .i64 0, .int .i64 0, .slice none 0 0] 28)).alloc (.cells #[.int .i64 h, .int .i64 l, .slice none 0 0] 28)).heap.size = w.heap.size + 3 := by simp
  have hx : Boxes (((w.alloc (.cells #[.int .i64 h, .int .i64 l, .slice a k.len c] 24)).alloc (.cells #[.int .i64 0, .int .i64 0, .slice none 0 0] 28)).alloc (.cells #[.int .i64 h, .int .i64 l, .slice none 0 0] 28)) (w.heap.size + 1) 28 #[.int .i64 0, .int .i64 0, .slice none 0 0] := by
    have h1 : Boxes ((w.alloc (.cells #[.int .i64 h, .int .i64 l, .slice a k.len c] 24)).alloc (.cells #[.int .i64 0, .int .i64 0, .slice none 0 0] 28)) (w.alloc (.cells #[.int .i64 h, .int .i64 l, .slice a k.len c] 24)).heap.size 28 #[.int .i64 0, .int .i64 0, .slice none 0 0] := World.alloc_heap_new _ _
    simp only [World.size_alloc] at h1
    exact h1.step ((Below.refl _ _).alloc (Nat.le_refl _) (.cells #[.int .i64 h, .int .i64 l, .slice none 0 0] 28))
  have hy : Boxes (((w.alloc (.cells #[.int .i64 h, .int .i64 l, .slice a k.len c] 24)).alloc (.cells #[.int .i64 0, .int .i64 0, .slice none 0 0] 28)).alloc (.cells #[.int .i64 h, .int .i64 l, .slice none 0 0] 28)) (w.heap.size + 2) 28 #[.int .i64 h, .int .i64 l, .slice none 0 0] := by
    have h1 : Boxes (((w.alloc (.cells #[.int .i64 h, .int .i64 l, .slice a k.len c] 24)).alloc (.cells #[.int .i64 0, .int .i64 0, .slice none 0 0] 28)).alloc (.cells #[.int .i64 h, .int .i64 l, .slice none 0 0] 28)) ((w.alloc (.cells #[.int .i64 h, .int .i64 l, .slice a k.len c] 24)).alloc (.cells #[.int .i64 0, .int .i64 0, .slice none 0 0] 28)).heap.size 28 #[.int .i64 h, .int .i64 l, .slice none 0 0] := World.alloc_heap_new _ _
    simp only [World.size_alloc] at h1
    exact h1
  have HK3 := HK.out.below hb3 (Nat.le_refl _)
  refine (HI.out _ HK3).mono ?_
  generalize ((w.alloc (.cells #[.int .i64 h, .int .i64 l, .slice a k.len c] 24)).alloc (.cells #[.int .i64 0, .int .i64 0, .slice none 0 0] 28)).alloc (.cells #[.int .i64 h, .int .i64 l, .slice none 0 0] 28) = w3 at *
  rintro e w4 ⟨⟨a', c', rfl, hk'⟩, hb4⟩
  have hX := hx.step hb4
  have hY := hy.step hb4
  have HB := Lib.hid (hb3.trans (hb4.mono (by omega)))
  rw [hs3] at hk'
  have HK' := Lib.hid hk'
  have x0 := hX.g0
  have x1 := hX.g1
  have x2 := hX.g2
  have f0 := hX.gf 0
  have f1 := hX.gf 1
  have f2 := hX.gf 2
  have y0 := hY.g0
  have y1 := hY.g1
  have y2 := hY.g2
  have g2 := hY.gf 2
  have lx := hX.lt
  have ly := hY.lt
  clear hb3 hs3 hx hy HK3 hb4 hX hY hk' HI HK
  go_wp2_with fail
  refine bodyPost_ret (v := .agg #[.int .i64 h, .int .i64 l, .slice a' k.len c']) (by simp [results, Try.results10, go_sem, x0, x1, x2]) rfl ⟨⟨a', c', rfl, (((HK'.out.setCell (p := ⟨w.heap.size + 2, 2, none⟩) (by show w.heap.size + 2 < w.heap.size + 3; omega) _).setCell (p := ⟨w.heap.size + 1, 0, none⟩) (by show w.heap.size + 1 < w.heap.size + 3; omega) _).setCell (p := ⟨w.heap.size + 1, 1, none⟩) (by show w.heap.size + 1 < w.heap.size + 3; omega) _).setCell (p := ⟨w.heap.size + 1, 2, none⟩) (by show w.heap.size + 1 < w.heap.size + 3; omega) _⟩,
    (((HB.out.setCell (p := ⟨w.heap.size + 2, 2, none⟩) (by show w.heap.size ≤ w.heap.size + 2; omega) _).setCell (p := ⟨w.heap.size + 1, 0, none⟩) (by show w.heap.size ≤ w.heap.size + 1; omega) _).setCell (p := ⟨w.heap.size + 1, 1, none⟩) (by show w.heap.size ≤ w.heap.size + 1; omega) _).setCell (p := ⟨w.heap.size + 1, 2, none⟩) (by show w.heap.size ≤ w.heap.size + 1; omega) _⟩

/-- What lies in a new row, and behind it. -/
def FilledM (W : World) (S : Nat) (F : Nat → Value) (f : Fo) (k : Nat) : Prop :=
  ∀ i, i < k → F (i * 3) = .int .i64 (f.hAt i) ∧ F (i * 3 + 1) = .int .i64 (f.lAt i) ∧ ∃ (a : Option Addr) (c : Nat), F (i * 3 + 2) = .slice a (f.kAt i).len c ∧ KidsM W (S + 1) a (f.kAt i)
theorem FilledM.map {W W' : World} {S : Nat} {F : Nat → Value} {f : Fo} {k : Nat} (h : FilledM W S F f k) (hk : ∀ a g, KidsM W (S + 1) a g → KidsM W' (S + 1) a g) : FilledM W' S F f k := fun i hi => by
  obtain ⟨h1, h2, a, c, h3, h4⟩ := h i hi
  exact ⟨h1, h2, a, c, h3, hk _ _ h4⟩
theorem FilledM.put {W : World} {S : Nat} {F : Nat → Value} {f : Fo} {k : Nat} (h : FilledM W S F f k) {a : Option Addr} {c : Nat} (ha : KidsM W (S + 1) a (f.kAt k)) :
    FilledM W S (fun j => if j = k * 3 + 2 then .slice a (f.kAt k).len c else if j = k * 3 + 1 then .int .i64 (f.lAt k) else if j = k * 3 then .int .i64 (f.hAt k) else F j) f (k + 1) := fun i hi => by
  by_cases e : i = k
  · subst e
    exact ⟨by simp, by simp, a, c, by simp, ha⟩
  · obtain ⟨h1, h2, a2, c2, h3, h4⟩ := h i (by omega)
    refine ⟨?_, ?_, a2, c2, ?_, h4⟩
    · rw [← h1]; simp only; rw [if_neg (by omega), if_neg (by omega), if_neg (by omega)]
    · rw [← h2]; simp only; rw [if_neg (by omega), if_neg (by omega), if_neg (by omega)]
    · rw [← h3]; simp only; rw [if_neg (by omega), if_neg (by omega), if_neg (by omega)]

set_option maxRecDepth 100000 in
set_option maxHeartbeats 1000000 in
theorem toGateSM_any : ∀ (m : Nat) (f : Fo), f.size < m → m ≤ 1048577 → ∀ (B : Nat) (a : Option Addr) (c : Nat) (w : World), Kids w B a f →
    Calls Try.prog 29 #[.slice a f.len c] w fun e w' => (∃ a' c', e = .returned (.slice a' f.len c') ∧ KidsM w' w.heap.size a' f) ∧ Below w.heap.size w w' := by
  intro m
  induction m with
  | zero => exact fun f hf => absurd hf (Nat.not_lt_zero _)
  | succ m ih =>
    intro f hf hm B a c w hk
    have hlen := f.len_le
    have HIH := Lib.hid ih
    have HK := Lib.hid hk
    clear ih hk
    have hmk := run_make3 (P := Try.prog) 26 28 (.agg #[.int .i64 0, .int .i64 0, .slice none 0 0]) 40 Try.underlying26 Try.infoGate .i64 .i64 f.len (by omega) (by omega)
    go_enter Try.func29, Try.ntmps29
    go_wp2_with fail
    obtain ⟨F0, hF0⟩ := rowIs_made3 w (Value.agg #[.int .i64 0, .int .i64 0, .slice none 0 0]).cells (f.len * 3) 28
    have hB0 := (Below.refl w.heap.size w).alloc (Nat.le_refl _) (.cells (madeCells (Value.agg #[.int .i64 0, .int .i64 0, .slice none 0 0]).cells (f.len * 3)) 28)
    clear hmk
    go_loopw [4] (fun i wr => ∃ (k : Nat) (F : Nat → Value), k ≤ f.len ∧ i = .int .i64 k ∧ wr.rowIs w.heap.size 28 (f.len * 3) F ∧ FilledM wr w.heap.size F f k ∧ Below w.heap.size w wr)
      (fun i _ => f.len - (intOf i).toNat)
    case atStart => exact ⟨0, F0, Nat.zero_le _, rfl, hF0, fun i hi => absurd hi (Nat.not_lt_zero _), hB0⟩
    case round =>
      obtain ⟨k, F, hk, rfl, hrow, hfil, hb⟩ := hrel
      have HR := Lib.hid hrow
      have HF := Lib.hid hfil
      have HB := Lib.hid hb
      clear hF0 hB0 hrow hfil hb
      by_cases hlt : k < f.len
      · rcases HK.out with h | ⟨b, o, rfl, hBb, hFA⟩
        · rw [h] at hlt; exact absurd hlt (Nat.not_lt_zero _)
        obtain ⟨g1, g2, ai, ci, g3, g4⟩ := hFA.get hlt
        have c1 := cell_step HB.out g1
        have c2 := cell_step HB.out g2
        have c3 := cell_step HB.out g3
        have HG := Lib.hid (g4.step HB.out)
        have hs := f.k_size hlt
        clear g1 g2 g3 g4 hFA
        have hi0 : (k : Int) < (f.len : Int) := by omega
        have hlr := HR.out.lt
        have HP := Lib.hid (fun (a : Option Addr) (c : Nat) (W : World) (hW : FilledM W w.heap.size F f k) (ha : KidsM W (w.heap.size + 1) a (f.kAt k)) => hW.put (c := c) ha)
        generalize hgh : f.hAt k = gh at *
        generalize hgl : f.lAt k = gl at *
        generalize hgk : f.kAt k = gk at *
        clear hgh hgl hgk
        go_wp2_with fail
        refine (toGateM_of gh gl B ai gk ci wr (fun W hW => HIH.out gk (by omega) (by omega) B ai ci W hW) HG.out).mono ?_
        rintro e w1 ⟨⟨a1, d1, rfl, hk1⟩, hb1⟩
        have hR1 := rowIs_below HR.out hb1 HR.out.lt
        have z0 := hR1.cell (i := k * 3) (by omega)
        have z1 := hR1.cell (i := k * 3 + 1) (by omega)
        have z2 := hR1.cell (i := k * 3 + 2) (by omega)
        have f0 := hR1.frozen (k * 3)
        have f1 := hR1.frozen (k * 3 + 1)
        have f2 := hR1.frozen (k * 3 + 2)
        have lr := hR1.lt
        have hR2 := ((hR1.set (k * 3) (.int .i64 gh)).set (k * 3 + 1) (.int .i64 gl)).set (k * 3 + 2) (.slice a1 gk.len d1)
        have hF2 := HP.out a1 d1 w1 (HF.out.map fun _ _ q => q.step hb1) (hk1.mono (by omega))
        have hF3 := ((hF2.map (W' := w1.setCell ⟨w.heap.size, k * 3, none⟩ (.int .i64 gh)) fun _ _ q => q.setCell (Nat.lt_succ_self _) _).map (W' := (w1.setCell ⟨w.heap.size, k * 3, none⟩ (.int .i64 gh)).setCell ⟨w.heap.size, k * 3 + 1, none⟩ (.int .i64 gl)) fun _ _ q => q.setCell (Nat.lt_succ_self _) _).map (W' := ((w1.setCell ⟨w.heap.size, k * 3, none⟩ (.int .i64 gh)).setCell ⟨w.heap.size, k * 3 + 1, none⟩ (.int .i64 gl)).setCell ⟨w.heap.size, k * 3 + 2, none⟩ (.slice a1 gk.len d1)) fun _ _ q => q.setCell (Nat.lt_succ_self _) _
        have hB2 := (((HB.out.trans (hb1.mono HB.out.size)).setCell (p := ⟨w.heap.size, k * 3, none⟩) (Nat.le_refl _) (.int .i64 gh)).setCell (p := ⟨w.heap.size, k * 3 + 1, none⟩) (Nat.le_refl _) (.int .i64 gl)).setCell (p := ⟨w.heap.size, k * 3 + 2, none⟩) (Nat.le_refl _) (.slice a1 gk.len d1)
        have HR2 := Lib.hid hR2
        have HF3 := Lib.hid hF3
        have HB2 := Lib.hid hB2
        clear hR1 hR2 hF2 hF3 hB2 hb1 hk1 c1 c2 c3
        go_wp2_with fail
        go_roundw
        case rel => exact ⟨k + 1, _, by omega, by go_num, HR2.out, HF3.out, HB2.out⟩
        case measure => simp [intOf]; omega
      · have hE : k = f.len := by omega
        subst hE
        go_wp2_with fail
        go_ret
        refine ⟨⟨_, _, rfl, .inr ⟨w.heap.size, 0, rfl, Nat.le_refl _, MAt.of fun i hi => ?_⟩⟩, HB.out⟩
        obtain ⟨h1, h2, a2, c2, h3, h4⟩ := HF.out i hi
        rw [Nat.zero_add]
        exact ⟨⟨by rw [HR.out.cell (by omega), h1], HR.out.frozen _⟩, ⟨by rw [HR.out.cell (by omega), h2], HR.out.frozen _⟩, a2, c2, by rw [HR.out.cell (by omega), h3], h4.mono (by omega)⟩

/-- Gates that may be marked: what matters is where things lie. -/
def NAtM (W : World) (lo hi : Nat) : Fo → Nat → Nat → Prop
  | .nil, _, _ => True
  | .cons _ _ k r, b, o => ((∃ n : Int, W.cell? ⟨b, o, none⟩ = some (.int .i64 n)) ∧ W.frozen? ⟨b, o, none⟩ = false) ∧ ((∃ n : Int, W.cell? ⟨b, o + 1, none⟩ = some (.int .i64 n)) ∧ W.frozen? ⟨b, o + 1, none⟩ = false) ∧
      (∃ (a : Option Addr) (c : Nat), W.cell? ⟨b, o + 2, none⟩ = some (.slice a k.len c) ∧ (k = .nil ∨ ∃ b' o', a = some ⟨b', o', none⟩ ∧ lo ≤ b' ∧ b' < hi ∧ NAtM W lo hi k b' o')) ∧ NAtM W lo hi r b (o + 3)
def KidsN (W : World) (lo hi : Nat) (a : Option Addr) (f : Fo) : Prop := f = .nil ∨ ∃ b o, a = some ⟨b, o, none⟩ ∧ lo ≤ b ∧ b < hi ∧ NAtM W lo hi f b o
theorem MAt.natm {W : World} {B : Nat} {f : Fo} {b o : Nat} (h : MAt W B f b o) : NAtM W B W.heap.size f b o := by
  induction f generalizing b o with
  | nil => trivial
  | cons x l k r ihk ihr =>
    obtain ⟨h1, h2, ⟨a, c, h3, h4⟩, h5⟩ := h
    refine ⟨⟨⟨x, h1.1⟩, h1.2⟩, ⟨⟨l, h2.1⟩, h2.2⟩, ⟨a, c, h3, ?_⟩, ihr h5⟩
    rcases h4 with h4 | ⟨b', o', e, hb', h6⟩
    · exact .inl h4
    · refine (Classical.em (k = .nil)).elim .inl fun hn => .inr ⟨b', o', e, hb', ?_, ihk h6⟩
      cases k with
      | nil => exact absurd rfl hn
      | cons y m k2 r2 => exact World.block_lt_of_cell? _ _ h6.1.1
theorem KidsM.kidsn {W : World} {B : Nat} {a : Option Addr} {f : Fo} (h : KidsM W B a f) : KidsN W B W.heap.size a f := by
  rcases h with h | ⟨b, o, e, hb, h⟩
  · exact .inl h
  · refine (Classical.em (f = .nil)).elim .inl fun hn => .inr ⟨b, o, e, hb, ?_, h.natm⟩
    cases f with
    | nil => exact absurd rfl hn
    | cons y m k2 r2 => exact World.block_lt_of_cell? _ _ h.1.1
/-- Numbers may have turned, and nothing else. -/
structure Renum (lo hi : Nat) (W W' : World) : Prop where
  touch : Touch lo hi W W'
  size : W'.heap.size = W.heap.size
  cell : ∀ (p : Addr) (v : Value), W.cell? p = some v → W'.cell? p = some v ∨ ((∃ n : Int, v = .int .i64 n) ∧ ∃ n : Int, W'.cell? p = some (.int .i64 n))
  frozen : ∀ p : Addr, W'.frozen? p = W.frozen? p
theorem Renum.refl (lo hi : Nat) (W : World) : Renum lo hi W W := ⟨Touch.refl _ _ _, rfl, fun _ _ h => .inl h, fun _ => rfl⟩
theorem Renum.trans {lo hi : Nat} {a b c : World} (h : Renum lo hi a b) (k : Renum lo hi b c) : Renum lo hi a c := by
  refine ⟨h.touch.trans k.touch, k.size.trans h.size, fun p v hv => ?_, fun p => (k.frozen p).trans (h.frozen p)⟩
  rcases h.cell p v hv with h1 | ⟨h1, n, h2⟩
  · exact k.cell p v h1
  · rcases k.cell p _ h2 with h3 | ⟨_, h3⟩
    · exact .inr ⟨h1, n, h3⟩
    · exact .inr ⟨h1, h3⟩
theorem Renum.put {lo hi : Nat} {W : World} {p : Addr} {n m : Int} (hp : W.cell? p = some (.int .i64 n)) (h1 : lo ≤ p.block) (h2 : p.block < hi) : Renum lo hi W (W.setCell p (.int .i64 m)) := by
  refine ⟨⟨rfl, rfl, rfl, by simp, fun k _ hk => Below.heap_setCell _ _ _ k (fun e => by omega)⟩, by simp, fun q v hv => ?_, fun q => World.frozen?_setCell _ _ _ _⟩
  by_cases e : q = p
  · subst e
    rw [hp] at hv
    cases hv
    exact .inr ⟨⟨n, rfl⟩, m, World.cell?_setCell_same _ _ _ hp⟩
  · exact .inl (by rw [World.cell?_setCell_other _ _ _ _ (fun h => e h.symm)]; exact hv)
theorem NAtM.renum {lo hi : Nat} {W W' : World} (hr : Renum lo hi W W') {f : Fo} {b o : Nat} (h : NAtM W lo hi f b o) : NAtM W' lo hi f b o := by
  induction f generalizing b o with
  | nil => trivial
  | cons x l k r ihk ihr =>
    obtain ⟨⟨⟨n1, h1⟩, f1⟩, ⟨⟨n2, h2⟩, f2⟩, ⟨a, c, h3, h4⟩, h5⟩ := h
    have num : ∀ (p : Addr) (n : Int), W.cell? p = some (.int .i64 n) → ∃ n : Int, W'.cell? p = some (.int .i64 n) := fun p n hp => by
      rcases hr.cell p _ hp with q | ⟨_, q⟩
      · exact ⟨n, q⟩
      · exact q
    refine ⟨⟨num _ _ h1, (hr.frozen _).trans f1⟩, ⟨num _ _ h2, (hr.frozen _).trans f2⟩, ⟨a, c, ?_, ?_⟩, ihr h5⟩
    · rcases hr.cell _ _ h3 with q | ⟨⟨n, q⟩, _⟩
      · exact q
      · cases q
    · rcases h4 with h4 | ⟨b', o', e, h6, h7, h8⟩
      · exact .inl h4
      · exact .inr ⟨b', o', e, h6, h7, ihk h8⟩
theorem KidsN.renum {lo hi : Nat} {W W' : World} (hr : Renum lo hi W W') {a : Option Addr} {f : Fo} (h : KidsN W lo hi a f) : KidsN W' lo hi a f := by
  rcases h with h | ⟨b, o, e, h1, h2, h⟩
  · exact .inl h
  · exact .inr ⟨b, o, e, h1, h2, h.renum hr⟩
theorem NAtM.get {W : World} {lo hi : Nat} {f : Fo} {b o : Nat} (h : NAtM W lo hi f b o) {i : Nat} (hi' : i < f.len) :
    ((∃ n : Int, W.cell? ⟨b, o + i * 3, none⟩ = some (.int .i64 n)) ∧ W.frozen? ⟨b, o + i * 3, none⟩ = false) ∧ ((∃ n : Int, W.cell? ⟨b, o + i * 3 + 1, none⟩ = some (.int .i64 n)) ∧ W.frozen? ⟨b, o + i * 3 + 1, none⟩ = false) ∧
      ∃ (a : Option Addr) (c : Nat), W.cell? ⟨b, o + i * 3 + 2, none⟩ = some (.slice a (f.kAt i).len c) ∧ KidsN W lo hi a (f.kAt i) := by
  induction f generalizing i o with
  | nil => simp [Fo.len] at hi'
  | cons x l k r _ ih =>
    cases i with
    | zero =>
      simp only [Nat.zero_mul, Nat.add_zero, Fo.kAt]
      obtain ⟨h1, h2, ⟨a, c, h3, h4⟩, _⟩ := h
      refine ⟨h1, h2, a, c, h3, ?_⟩
      rcases h4 with h4 | ⟨b', o', e, h6, h7, h8⟩
      · exact .inl h4
      · exact .inr ⟨b', o', e, h6, h7, h8⟩
    | succ i =>
      have := ih h.2.2.2 (i := i) (by simp [Fo.len] at hi'; omega)
      rw [show o + 3 + i * 3 = o + (i + 1) * 3 by omega] at this
      exact this

set_option maxRecDepth 100000 in
set_option maxHeartbeats 2000000 in
theorem markGateS_any : ∀ (m : Nat) (f : Fo), f.size < m → m ≤ 1048577 → ∀ (lo hi : Nat) (a : Option Addr) (c : Nat) (k0 : Int) (w : World), KidsN w lo hi a f → 0 ≤ k0 → k0 + 2 * (f.size : Int) ≤ 8388608 →
    Calls Try.prog 34 #[.slice a f.len c, .int .i64 k0] w fun e w' => e = .returned (.int .i64 (k0 + 2 * (f.size : Int))) ∧ Renum lo hi w w' := by
  intro m
  induction m with
  | zero => exact fun f hf => absurd hf (Nat.not_lt_zero _)
  | succ m ih =>
    intro f hf hm lo hi a c k0 w hk hk0 hk1
    have hlen := f.len_le
    have HIH := Lib.hid ih
    have HK := Lib.hid hk
    clear ih hk
    go_enter Try.func34, Try.ntmps34
    go_wp2_with fail
    go_loopw [1, 5] (fun q i wr => ∃ (k : Nat) (u : Int), k ≤ f.len ∧ i = .int .i64 k ∧ q = .int .i64 u ∧ u = k0 + 2 * (f.pre k : Int) ∧ Renum lo hi w wr)
      (fun _ i _ => f.len - (intOf i).toNat)
    case atStart => exact ⟨0, k0, Nat.zero_le _, rfl, rfl, by rw [f.pre_zero]; omega, Renum.refl _ _ _⟩
    case round =>
      obtain ⟨k, u, hk, rfl, rfl, hu, hr⟩ := hrel
      have HR := Lib.hid hr
      have hpk := f.pre_le k
      have hu0 : 0 ≤ u := by omega
      have hu1 : u ≤ 8388608 := by omega
      have HU := Lib.hid hu
      clear hr hu
      by_cases hlt : k < f.len
      · rcases HK.out with h | ⟨b, o, rfl, h1, h2, hN⟩
        · rw [h] at hlt; exact absurd hlt (Nat.not_lt_zero _)
        obtain ⟨⟨⟨n1, g1⟩, f1⟩, ⟨⟨n2, g2⟩, f2⟩, ai, ci, g3, g4⟩ := (hN.renum HR.out).get hlt
        have r1 := Renum.put (lo := lo) (hi := hi) (m := u) g1 h1 h2
        have g2' : ∃ n : Int, (wr.setCell ⟨b, o + k * 3, none⟩ (.int .i64 u)).cell? ⟨b, o + k * 3 + 1, none⟩ = some (.int .i64 n) := by
          rcases r1.cell _ _ g2 with q | ⟨_, q⟩
          · exact ⟨n2, q⟩
          · exact q
        obtain ⟨n2', g2'⟩ := g2'
        have r2 := r1.trans (Renum.put (lo := lo) (hi := hi) (m := u + 1) g2' h1 h2)
        have HR2 := Lib.hid r2
        have HG := Lib.hid (g4.renum r2)
        have hs := f.k_size hlt
        have hp := f.pre_succ hlt
        have hpl := f.pre_le (k + 1)
        have hi0 : (k : Int) < (f.len : Int) := by omega
        have HUU := Lib.hid (show u + 1 + 1 + 2 * ((f.kAt k).size : Int) = k0 + 2 * (f.pre (k + 1) : Int) by rw [hp, HU.out]; omega)
        have hb2 : u + 1 + 1 + 2 * ((f.kAt k).size : Int) ≤ 8388608 := by rw [HUU.out]; omega
        clear r1 r2 g4 hN hp
        generalize f.kAt k = gk at *
        go_wp2_with fail
        refine (HIH.out gk (by omega) (by omega) lo hi ai ci (u + 1 + 1) _ HG.out (by omega) hb2).mono ?_
        rintro e w4 ⟨rfl, hr4⟩
        have HR4 := Lib.hid (HR.out.trans (HR2.out.trans hr4))
        have hv0 : 0 ≤ u + 1 + 1 + 2 * (gk.size : Int) := by omega
        clear hr4 g1 g2 g3 g2' f1 f2 HR2 HG
        go_wp2_with fail
        go_roundw
        case rel => exact ⟨k + 1, _, by omega, by go_num, rfl, HUU.out, HR4.out⟩
        case measure => simp [intOf]; omega
      · have hE : k = f.len := by omega
        have HU2 := Lib.hid (show u = k0 + 2 * (f.size : Int) by rw [HU.out, hE, f.pre_len])
        go_wp2_with fail
        go_ret
        exact ⟨by first | rw [HU2.out]; rfl | rfl, HR.out⟩
theorem KidsN.step {W W' : World} {lo hi : Nat} {a : Option Addr} {f : Fo} (h : KidsN W lo hi a f) (hb : Below W.heap.size W W') : KidsN W' lo hi a f := by
  have key : ∀ (g : Fo) (b o : Nat), NAtM W lo hi g b o → NAtM W' lo hi g b o := by
    intro g
    induction g with
    | nil => exact fun _ _ _ => trivial
    | cons x y k r ihk ihr =>
      intro b o ⟨⟨⟨n1, h1⟩, f1⟩, ⟨⟨n2, h2⟩, f2⟩, ⟨a, c, h3, h4⟩, h5⟩
      refine ⟨⟨⟨n1, cell_step hb h1⟩, (hb.frozen (World.block_lt_of_cell? _ _ h1)).trans f1⟩, ⟨⟨n2, cell_step hb h2⟩, (hb.frozen (World.block_lt_of_cell? _ _ h2)).trans f2⟩, ⟨a, c, cell_step hb h3, ?_⟩, ihr _ _ h5⟩
      rcases h4 with h4 | ⟨b', o', e, h6, h7, h8⟩
      · exact .inl h4
      · exact .inr ⟨b', o', e, h6, h7, ihk _ _ h8⟩
  rcases h with h | ⟨b, o, e, h1, h2, h⟩
  · exact .inl h
  · exact .inr ⟨b, o, e, h1, h2, key f b o h⟩
theorem Touch.below2 {lo hi : Nat} {w w' : World} (h : Touch lo hi w w') {B : Nat} (hB : B ≤ lo) (hs : B ≤ w.heap.size) : Below B w w' := ⟨h.os, h.tape, h.output, h.size, fun k hk => h.block k (by omega) (.inl (by omega))⟩
set_option maxRecDepth 100000 in
theorem markGate_any (h l : Int) (lo hi : Nat) (a : Option Addr) (f : Fo) (c : Nat) (k0 : Int) (w : World) (hf : f.size ≤ 1048576) (hk : KidsN w lo hi a f) (hk0 : 0 ≤ k0) (hk1 : k0 ≤ 4194304) :
    Calls Try.prog 13 #[.agg #[.int .i64 h, .int .i64 l, .slice a f.len c], .int .i64 k0] w fun e w' => e = .returned (.int .i64 (k0 + 2 * (f.size : Int))) ∧ Touch lo hi w w' := by
  have hb := (Below.refl w.heap.size w).alloc (Nat.le_refl _) (.cells #[.int .i64 h, .int .i64 l, .slice a f.len c] 28)
  have hN := hk.step hb
  have HN := Lib.hid hN
  have HT := Lib.hid (Touch.of_below lo hi hb)
  clear hk hb hN
  go_enter Try.func13, Try.ntmps13
  go_wp2_with fail
  refine (markGateS_any 1048577 f (by omega) (Nat.le_refl _) lo hi a c k0 _ HN.out hk0 (by omega)).mono ?_
  generalize w.alloc (.cells #[.int .i64 h, .int .i64 l, .slice a f.len c] 28) = w1 at *
  rintro e w2 ⟨rfl, hr⟩
  have HT2 := Lib.hid (HT.out.trans hr.touch)
  clear hr
  go_wp2_with fail
  go_ret
  exact ⟨rfl, HT2.out⟩
end Go.Proofs.Ytjhggglaglpgfaa
