/- toGate and toGateS of the laws. -/
import Derived.Test.YtjhggglaglpgfaaTg
namespace Go.Proofs.Ytjhggglaglpgfaa
open Go.RowKit Go.Deep
set_option linter.unusedVariables false

set_option maxRecDepth 100000 in
theorem toGate_of (h l : Int) (B : Nat) (a : Option Addr) (k : Fo) (c : Nat) (w : World)
    (hI : ∀ W : World, Kids W B a k → Calls Try.prog 29 #[.slice a k.len c] W fun e w' => (∃ a' c', e = .returned (.slice a' k.len c') ∧ Kids w' W.heap.size a' k) ∧ Below W.heap.size W w') (hk : Kids w B a k) :
    Calls Try.prog 10 #[.agg #[.int .i64 h, .int .i64 l, .slice a k.len c]] w fun e w' => (∃ a' c', e = .returned (.agg #[.int .i64 h, .int .i64 l, .slice a' k.len c']) ∧ Kids w' (w.heap.size + 3) a' k) ∧ Below w.heap.size w w' := by
  go_enter Try.func10, Try.ntmps10
  go_wp2_with fail
  have HI := Lib.hid hI
  have HK := Lib.hid hk
  clear hI hk
  have hb3 := (((Below.refl w.heap.size w).alloc (Nat.le_refl _) (.cells #[.int .i64 h, .int .i64 l, .slice a k.len c] 24)).alloc (by simp) (.cells #[.int .i64 0, .int .i64 0, .slice none 0 0] 28)).alloc (by simp; omega) (.cells #[.int .i64 h, .int .i64 l, .slice none 0 0] 28)
  have hs3 : (((w.alloc (.cells #[.int .i64 h, .int .i64 l, .slice a k.len c] 24)).alloc (.cells #[.int .i64 0, .int .i64 0, .slice none 0 0] 28)).alloc (.cells #[.int .i64 h, .int .i64 l, .slice none 0 0] 28)).heap.size = w.heap.size + 3 := by simp
  have hx : Boxes (((w.alloc (.cells #[.int .i64 h, .int .i64 l, .slice a k.len c] 24)).alloc (.cells #[.int .i64 0, .int .i64 0, .slice none 0 0] 28)).alloc (.cells #[.int .i64 h, .int .i64 l, .slice none 0 0] 28)) (w.heap.size + 1) 28 #[.int .i64 0, .int .i64 0, .slice none 0 0] := by
    have h1 : Boxes ((w.alloc (.cells #[.int .i64 h, .int .i64 l, .slice a k.len c] 24)).alloc (.cells #[.int .i64 0, .int .i64 0, .slice none 0 0] 28)) (w.alloc (.cells #[.int .i64 h, .int .i64 l, .slice a k.len c] 24)).heap.size 28 #[.int .i64 0, .int .i64 0, .slice none 0 0] := World.alloc_heap_new _ _
    simp only [World.size_alloc] at h1
    exact h1.step ((Below.refl _ _).alloc (Nat.le_refl _) (.cells #[.int .i64 h, .int .i64 l, .slice none 0 0] 28))
  have hy : Boxes (((w.alloc (.cells #[.int .i64 h, .int .i64 l, .slice a k.len c] 24)).alloc (.cells #[.int .i64 0, .int .i64 0, .slice none 0 0] 28)).alloc (.cells #[.int .i64 h, .int .i64 l, .slice none 0 0] 28)) (w.heap.size + 2) 28 #[.int .i64 h, .int .i64 l, .slice none 0 0] := by
    have h1 : Boxes (((w.alloc (.cells #[.int .i64 h, .int .i64 l, .slice a k.len c] 24)).alloc (.cells #[.int .i64 0, .int .i64 0, .slice none 0 0] 28)).alloc (.cells #[.int .i64 h, .int .i64 l, .slice none 0 0] 28)) ((w.alloc (.cells #[.int .i64 h, .int .i64 l, .slice a k.len c] 24)).alloc (.cells #[.int .i64 0, .int .i64 0, .slice none 0 0] 28)).heap.size 28 #[.int .i64 h, .int .i64 l, .slice none 0 0] := World.alloc_heap_new _ _
    simp only [World.size_alloc] at h1
    exact h1
  have HK3 := HK.out.below hb3 (Nat.le_refl _)
  refine (HI.out _ HK3).mono ?_
  generalize ((w.alloc (.cells #[.int .i64 h, .int .i64 l, .slice a k.len c] 24)).alloc (.cells #[.int .i64 0, .int .i64 0, .slice none 0 0] 28)).alloc (.cells #[.int .i64 h, .int .i64 l, .slice none 0 0] 28) = w3 at *
  rintro e w4 ⟨⟨a', c', rfl, hk'⟩, hb4⟩
  have hX := hx.step hb4
  have hY := hy.step hb4
  have HB := Lib.hid (hb3.trans (hb4.mono (by omega)))
  rw [hs3] at hk'
  have HK' := Lib.hid hk'
  have x0 := hX.g0
  have x1 := hX.g1
  have x2 := hX.g2
  have f0 := hX.gf 0
  have f1 := hX.gf 1
  have f2 := hX.gf 2
  have y0 := hY.g0
  have y1 := hY.g1
  have y2 := hY.g2
  have g2 := hY.gf 2
  have lx := hX.lt
  have ly := hY.lt
  clear hb3 hs3 hx hy HK3 hb4 hX hY hk' HI HK
  go_wp2_with fail
  refine bodyPost_ret (v := .agg #[.int .i64 h, .int .i64 l, .slice a' k.len c']) (by simp [results, Try.results10, go_sem, x0, x1, x2]) rfl ⟨⟨a', c', rfl, (((HK'.out.setCell (p := ⟨w.heap.size + 2, 2, none⟩) (by show w.heap.size + 2 < w.heap.size + 3; omega) _).setCell (p := ⟨w.heap.size + 1, 0, none⟩) (by show w.heap.size + 1 < w.heap.size + 3; omega) _).setCell (p := ⟨w.heap.size + 1, 1, none⟩) (by show w.heap.size + 1 < w.heap.size + 3; omega) _).setCell (p := ⟨w.heap.size + 1, 2, none⟩) (by show w.heap.size + 1 < w.heap.size + 3; omega) _⟩,
    (((HB.out.setCell (p := ⟨w.heap.size + 2, 2, none⟩) (by show w.heap.size ≤ w.heap.size + 2; omega) _).setCell (p := ⟨w.heap.size + 1, 0, none⟩) (by show w.heap.size ≤ w.heap.size + 1; omega) _).setCell (p := ⟨w.heap.size + 1, 1, none⟩) (by show w.heap.size ≤ w.heap.size + 1; omega) _).setCell (p := ⟨w.heap.size + 1, 2, none⟩) (by show w.heap.size ≤ w.heap.size + 1; omega) _⟩

/-- What lies in a new row, and behind it. -/
def Filled (W : World) (S : Nat) (F : Nat → Value) (f : Fo) (k : Nat) : Prop :=
  ∀ i, i < k → F (i * 3) = .int .i64 (f.hAt i) ∧ F (i * 3 + 1) = .int .i64 (f.lAt i) ∧ ∃ (a : Option Addr) (c : Nat), F (i * 3 + 2) = .slice a (f.kAt i).len c ∧ Kids W (S + 1) a (f.kAt i)
theorem Filled.map {W W' : World} {S : Nat} {F : Nat → Value} {f : Fo} {k : Nat} (h : Filled W S F f k) (hk : ∀ a g, Kids W (S + 1) a g → Kids W' (S + 1) a g) : Filled W' S F f k := fun i hi => by
  obtain ⟨h1, h2, a, c, h3, h4⟩ := h i hi
  exact ⟨h1, h2, a, c, h3, hk _ _ h4⟩
theorem Filled.put {W : World} {S : Nat} {F : Nat → Value} {f : Fo} {k : Nat} (h : Filled W S F f k) {a : Option Addr} {c : Nat} (ha : Kids W (S + 1) a (f.kAt k)) :
    Filled W S (fun j => if j = k * 3 + 2 then .slice a (f.kAt k).len c else if j = k * 3 + 1 then .int .i64 (f.lAt k) else if j = k * 3 then .int .i64 (f.hAt k) else F j) f (k + 1) := fun i hi => by
  by_cases e : i = k
  · subst e
    exact ⟨by simp, by simp, a, c, by simp, ha⟩
  · obtain ⟨h1, h2, a2, c2, h3, h4⟩ := h i (by omega)
    refine ⟨?_, ?_, a2, c2, ?_, h4⟩
    · rw [← h1]; simp only; rw [if_neg (by omega), if_neg (by omega), if_neg (by omega)]
    · rw [← h2]; simp only; rw [if_neg (by omega), if_neg (by omega), if_neg (by omega)]
    · rw [← h3]; simp only; rw [if_neg (by omega), if_neg (by omega), if_neg (by omega)]

set_option maxRecDepth 100000 in
set_option maxHeartbeats 1000000 in
theorem toGateS_any : ∀ (m : Nat) (f : Fo), f.size < m → m ≤ 1048577 → ∀ (B : Nat) (a : Option Addr) (c : Nat) (w : World), Kids w B a f →
    Calls Try.prog 29 #[.slice a f.len c] w fun e w' => (∃ a' c', e = .returned (.slice a' f.len c') ∧ Kids w' w.heap.size a' f) ∧ Below w.heap.size w w' := by
  intro m
  induction m with
  | zero => exact fun f hf => absurd hf (Nat.not_lt_zero _)
  | succ m ih =>
    intro f hf hm B a c w hk
    have hlen := f.len_le
    have HIH := Lib.hid ih
    have HK := Lib.hid hk
    clear ih hk
    have hmk := run_make3 (P := Try.prog) 26 28 (.agg #[.int .i64 0, .int .i64 0, .slice none 0 0]) 40 Try.underlying26 Try.infoGate .i64 .i64 f.len (by omega) (by omega)
    go_enter Try.func29, Try.ntmps29
    go_wp2_with fail
    obtain ⟨F0, hF0⟩ := rowIs_made3 w (Value.agg #[.int .i64 0, .int .i64 0, .slice none 0 0]).cells (f.len * 3) 28
    have hB0 := (Below.refl w.heap.size w).alloc (Nat.le_refl _) (.cells (madeCells (Value.agg #[.int .i64 0, .int .i64 0, .slice none 0 0]).cells (f.len * 3)) 28)
    clear hmk
    go_loopw [4] (fun i wr => ∃ (k : Nat) (F : Nat → Value), k ≤ f.len ∧ i = .int .i64 k ∧ wr.rowIs w.heap.size 28 (f.len * 3) F ∧ Filled wr w.heap.size F f k ∧ Below w.heap.size w wr)
      (fun i _ => f.len - (intOf i).toNat)
    case atStart => exact ⟨0, F0, Nat.zero_le _, rfl, hF0, fun i hi => absurd hi (Nat.not_lt_zero _), hB0⟩
    case round =>
      obtain ⟨k, F, hk, rfl, hrow, hfil, hb⟩ := hrel
      have HR := Lib.hid hrow
      have HF := Lib.hid hfil
      have HB := Lib.hid hb
      clear hF0 hB0 hrow hfil hb
      by_cases hlt : k < f.len
      · rcases HK.out with h | ⟨b, o, rfl, hBb, hFA⟩
        · rw [h] at hlt; exact absurd hlt (Nat.not_lt_zero _)
        obtain ⟨g1, g2, ai, ci, g3, g4⟩ := hFA.get hlt
        have c1 := cell_step HB.out g1
        have c2 := cell_step HB.out g2
        have c3 := cell_step HB.out g3
        have HG := Lib.hid (g4.step HB.out)
        have hs := f.k_size hlt
        clear g1 g2 g3 g4 hFA
        have hi0 : (k : Int) < (f.len : Int) := by omega
        have hlr := HR.out.lt
        have HP := Lib.hid (fun (a : Option Addr) (c : Nat) (W : World) (hW : Filled W w.heap.size F f k) (ha : Kids W (w.heap.size + 1) a (f.kAt k)) => hW.put (c := c) ha)
        generalize hgh : f.hAt k = gh at *
        generalize hgl : f.lAt k = gl at *
        generalize hgk : f.kAt k = gk at *
        clear hgh hgl hgk
        go_wp2_with fail
        refine (toGate_of gh gl B ai gk ci wr (fun W hW => HIH.out gk (by omega) (by omega) B ai ci W hW) HG.out).mono ?_
        rintro e w1 ⟨⟨a1, d1, rfl, hk1⟩, hb1⟩
        have hR1 := rowIs_below HR.out hb1 HR.out.lt
        have z0 := hR1.cell (i := k * 3) (by omega)
        have z1 := hR1.cell (i := k * 3 + 1) (by omega)
        have z2 := hR1.cell (i := k * 3 + 2) (by omega)
        have f0 := hR1.frozen (k * 3)
        have f1 := hR1.frozen (k * 3 + 1)
        have f2 := hR1.frozen (k * 3 + 2)
        have lr := hR1.lt
        have hR2 := ((hR1.set (k * 3) (.int .i64 gh)).set (k * 3 + 1) (.int .i64 gl)).set (k * 3 + 2) (.slice a1 gk.len d1)
        have hF2 := HP.out a1 d1 w1 (HF.out.map fun _ _ q => q.step hb1) (hk1.mono (by omega))
        have hF3 := ((hF2.map (W' := w1.setCell ⟨w.heap.size, k * 3, none⟩ (.int .i64 gh)) fun _ _ q => q.setCell (Nat.lt_succ_self _) _).map (W' := (w1.setCell ⟨w.heap.size, k * 3, none⟩ (.int .i64 gh)).setCell ⟨w.heap.size, k * 3 + 1, none⟩ (.int .i64 gl)) fun _ _ q => q.setCell (Nat.lt_succ_self _) _).map (W' := ((w1.setCell ⟨w.heap.size, k * 3, none⟩ (.int .i64 gh)).setCell ⟨w.heap.size, k * 3 + 1, none⟩ (.int .i64 gl)).setCell ⟨w.heap.size, k * 3 + 2, none⟩ (.slice a1 gk.len d1)) fun _ _ q => q.setCell (Nat.lt_succ_self _) _
        have hB2 := (((HB.out.trans (hb1.mono HB.out.size)).setCell (p := ⟨w.heap.size, k * 3, none⟩) (Nat.le_refl _) (.int .i64 gh)).setCell (p := ⟨w.heap.size, k * 3 + 1, none⟩) (Nat.le_refl _) (.int .i64 gl)).setCell (p := ⟨w.heap.size, k * 3 + 2, none⟩) (Nat.le_refl _) (.slice a1 gk.len d1)
        have HR2 := Lib.hid hR2
        have HF3 := Lib.hid hF3
        have HB2 := Lib.hid hB2
        clear hR1 hR2 hF2 hF3 hB2 hb1 hk1 c1 c2 c3
        go_wp2_with fail
        go_roundw
        case rel => exact ⟨k + 1, _, by omega, by go_num, HR2.out, HF3.out, HB2.out⟩
        case measure => simp [intOf]; omega
      · have hE : k = f.len := by omega
        subst hE
        go_wp2_with fail
        go_ret
        refine ⟨⟨_, _, rfl, .inr ⟨w.heap.size, 0, rfl, Nat.le_refl _, FAt.of fun i hi => ?_⟩⟩, HB.out⟩
        obtain ⟨h1, h2, a2, c2, h3, h4⟩ := HF.out i hi
        rw [Nat.zero_add]
        exact ⟨by rw [HR.out.cell (by omega), h1], by rw [HR.out.cell (by omega), h2], a2, c2, by rw [HR.out.cell (by omega), h3], h4.mono (by omega)⟩
end Go.Proofs.Ytjhggglaglpgfaa
