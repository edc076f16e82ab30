/- Of the program's reduction: firstWith, negative, multiplied, Clone of rows of elements. -/
import Derived.Test.YtnebkhelobpkpaaRd1
import Derived.Test.YtnebkhelobpkpaaInc
import Derived.Test.YtnebkhelobpkpaaPow
import Derived.Lib.SliceRun
namespace Go.Proofs.Ytnebkhelobpkpaa
open Go.RowKit Go.Deep Go.Joins Go.ChangeShapes Go.WideShapes Go.ChangeAt
set_option linter.unusedVariables false

set_option maxRecDepth 100000 in
set_option maxHeartbeats 1000000 in
theorem firstWith_any (va : Option Addr) (vc m n q k base : Nat) (p : Int) (us : List Value) (f : Nat → Nat → Int) (w : World) (ho : OwnG w base p (.slice va m vc) us (tab m n f)) (hk : k < n) (hq : q ≤ m) (hm : m ≤ 1000) (hn : n ≤ 1000) :
    Calls Try.prog 162 #[.slice va m vc, .int .i64 k, .int .i64 q] w fun e w' => ((∃ s : Nat, e = .returned (.tuple #[.int .i64 s, .bool true]) ∧ q ≤ s ∧ s < m ∧ f s k ≠ 0 ∧ ∀ i, q ≤ i → i < s → f i k = 0) ∨ (e = .returned (.tuple #[.int .i64 0, .bool false]) ∧ ∀ i, q ≤ i → i < m → f i k = 0)) ∧ w = w' := by
  have HO := Lib.hid ho
  clear ho
  go_enter Try.func162, Try.ntmps162
  go_wp2_with fail
  go_loop [8] (fun i => ∃ t : Nat, q ≤ t ∧ t ≤ m ∧ i = .int .i64 t ∧ ∀ r, q ≤ r → r < t → f r k = 0)
    (fun i => m - (intOf i).toNat)
  case atStart => exact ⟨q, Nat.le_refl _, hq, rfl, fun r h1 h2 => absurd h2 (by omega)⟩
  case round =>
    obtain ⟨t, ht1, ht2, rfl, hz⟩ := hrel
    have HZ := Lib.hid hz
    clear hz
    by_cases hlt : t < m
    · have hil : t < (tab m n f).length := by rw [tab_len]; exact hlt
      have hrl : (nthL (tab m n f) t).length = n := tab_rlen _ _ _ hlt
      obtain ⟨b, c, g, cap, hv, hu, -, -, -, -, hcr, hcc, -, -⟩ := HO.out.at (r := t) hil (by rw [hrl]; omega)
      rw [hrl] at hcr hcc
      rw [tab_len] at hv
      cases hv
      obtain ⟨-, d1⟩ := hcc k hk
      rw [tab_at _ _ _ hlt hk] at d1
      have ht0 : (t : Int) < (m : Int) := by omega
      have hk0 : (k : Int) < (n : Int) := by omega
      clear hcc hil hrl hu
      by_cases hy : f t k = 0
      · rw [hy] at d1
        go_wp2_with fail
        go_round
        case rel => exact ⟨t + 1, by omega, by omega, by go_num, fun r h1 h2 => by
          by_cases e : r = t
          · rw [e]; exact hy
          · exact HZ.out r h1 (by omega)⟩
        case measure => simp [intOf]; omega
      · obtain ⟨y, hyy⟩ : ∃ y, f t k = y := ⟨_, rfl⟩
        rw [hyy] at d1 hy
        have HYY := Lib.hid (show f t k ≠ 0 by rw [hyy]; exact hy)
        clear hyy
        go_wp2_with fail
        refine bodyPost_ret (v := .tuple #[.int .i64 t, .bool true]) (by simp [results, Try.results162, go_sem]) rfl ⟨.inl ⟨t, rfl, ht1, hlt, HYY.out, HZ.out⟩, rfl⟩
    · have ht0 : ¬ (t : Int) < (m : Int) := by omega
      have HE := Lib.hid (show t = m by omega)
      go_wp2_with fail
      refine bodyPost_ret (v := .tuple #[.int .i64 0, .bool false]) (by simp [results, Try.results162, go_sem]) rfl ⟨.inr ⟨rfl, fun i h1 h2 => HZ.out i h1 (by have := HE.out; omega)⟩, rfl⟩

set_option maxRecDepth 100000 in
set_option maxHeartbeats 4000000 in
theorem negative_any (p a : Int) (w : World) (hp : 2 ≤ p) (hp1 : p ≤ 31) (ha : Elem p a) : Calls Try.prog 96 #[.agg #[.int .i64 p, .int .i64 a]] w fun e w' => e = .returned (.agg #[.int .i64 p, .int .i64 ((p - a) % p)]) ∧ Below w.heap.size w w' := by
  have hB := ((Below.refl w.heap.size w).alloc (Nat.le_refl _) (.cells #[.int .i64 p, .int .i64 a] 126)).alloc (by simp) (.cells #[.int .i64 0, .int .i64 0] 126)
  have hA : Boxes ((w.alloc (.cells #[.int .i64 p, .int .i64 a] 126)).alloc (.cells #[.int .i64 0, .int .i64 0] 126)) w.heap.size 126 #[.int .i64 p, .int .i64 a] := (Below.heap_alloc _ _ _ (by simp)).trans (World.alloc_heap_new w _)
  have hR : Boxes ((w.alloc (.cells #[.int .i64 p, .int .i64 a] 126)).alloc (.cells #[.int .i64 0, .int .i64 0] 126)) (w.heap.size + 1) 126 #[.int .i64 0, .int .i64 0] := by
    have := World.alloc_heap_new (w.alloc (.cells #[.int .i64 p, .int .i64 a] 126)) (.cells #[.int .i64 0, .int .i64 0] 126)
    simpa [Boxes] using this
  have HA := Lib.hid ha
  obtain ⟨x, hx⟩ : ∃ x, (p - a) % p = x := ⟨_, rfl⟩
  rw [hx]
  have HX := Lib.hid hx
  clear hx
  have HW := Lib.hid (show IntKind.i64.wrap (p - a) = p - a from IntWalk.i64_in _ (by have := ha.1; have := ha.2; omega))
  have hpa : 0 ≤ p - a := by have := ha.2; omega
  clear ha
  go_enter Try.func96, Try.ntmps96
  go_wp2_with fail
  generalize (w.alloc (.cells #[.int .i64 p, .int .i64 a] 126)).alloc (.cells #[.int .i64 0, .int .i64 0] 126) = w2 at *
  have a0 := hA.c0
  have a1 := hA.c1
  have HR := Lib.hid hR
  have HB := Lib.hid hB
  clear hA hR hB
  go_region_with (first | (go_at_call 127; refine (prime_any p _).mono ?_; rintro e w' ⟨rfl, rfl⟩) | (go_at_call 137; rw [HW.out]; refine (rem_any p a (p - a) _ hp hp1 hpa).mono ?_; rw [HX.out]; rintro e w3 ⟨rfl, hb⟩; have r0 := (HR.out.step ((drew_step _).trans hb)).c0; have r1 := (HR.out.step ((drew_step _).trans hb)).c1; have f0 := (HR.out.step ((drew_step _).trans hb)).frozen 0; have f1 := (HR.out.step ((drew_step _).trans hb)).frozen 1; have HB3 := Lib.hid (HB.out.trans (((drew_step _).trans hb).mono HB.out.size)); clear hb))
  all_goals (go_wp2_with fail; refine bodyPost_ret (v := .agg #[.int .i64 p, .int .i64 x]) (by simp [results, Try.results96, go_sem, r0, r1]) rfl ⟨rfl, ?_⟩; exact (HB3.out.setCell (by simp) _).setCell (by simp) _)

/-- What 'multiplied' reads. -/
def MulInv (q3 : Nat) (p fct : Int) (W : World) : Prop := Boxes W q3 126 #[.int .i64 p, .int .i64 fct]

set_option maxRecDepth 100000 in
set_option maxHeartbeats 1000000 in
theorem mult_any (p x fct : Int) (j q3 : Nat) (W : World) (hp : 2 ≤ p) (hp1 : p ≤ 31) (h3 : Boxes W q3 126 #[.int .i64 p, .int .i64 fct]) (hx : Elem p x) (hf : Elem p fct) :
    Calls Try.prog 175 #[.int .i64 j, .agg #[.int .i64 p, .int .i64 x], .pointer (some ⟨q3, 0, none⟩)] W fun e w' => e = .returned (.agg #[.int .i64 p, .int .i64 (x * fct % p)]) ∧ Below W.heap.size W w' := by
  have c30 : W.cell? ⟨q3, 0, none⟩ = some (.int .i64 p) := by rw [h3.cell]; rfl
  have c31 : W.cell? ⟨q3, 1, none⟩ = some (.int .i64 fct) := by rw [h3.cell]; rfl
  have l3 := h3.lt
  clear h3
  go_enter Try.func175, Try.ntmps175
  go_wp2_with fail
  have hb1 := ((Below.refl W.heap.size W).alloc (Nat.le_refl _) (.cells #[.int .i64 p, .int .i64 x] 126)).alloc (by simp) (.cells #[.int .i64 0, .int .i64 0] 126)
  have hx6 : Boxes ((W.alloc (.cells #[.int .i64 p, .int .i64 x] 126)).alloc (.cells #[.int .i64 0, .int .i64 0] 126)) (W.heap.size + 1) 126 #[.int .i64 0, .int .i64 0] := by
    have : Boxes ((W.alloc (.cells #[.int .i64 p, .int .i64 x] 126)).alloc (.cells #[.int .i64 0, .int .i64 0] 126)) (W.alloc (.cells #[.int .i64 p, .int .i64 x] 126)).heap.size 126 #[.int .i64 0, .int .i64 0] := World.alloc_heap_new _ _
    simp only [World.size_alloc] at this
    exact this
  have HX6 := Lib.hid hx6
  have HB1 := Lib.hid hb1
  clear hx6 hb1
  refine (times_any p x fct _ hp hp1 hx hf).mono ?_
  rintro e w9 ⟨rfl, hb9⟩
  have z60 := (HX6.out.step hb9).c0
  have z61 := (HX6.out.step hb9).c1
  have zf0 := (HX6.out.step hb9).frozen 0
  have zf1 := (HX6.out.step hb9).frozen 1
  have HB9 := Lib.hid (HB1.out.trans (hb9.mono HB1.out.size))
  clear hb9
  go_wp2_with fail
  refine bodyPost_ret (v := .agg #[.int .i64 p, .int .i64 (x * fct % p)]) (by simp [results, Try.results175, go_sem, z60, z61]) rfl ⟨rfl, ?_⟩
  exact (HB9.out.setCell (p := ⟨W.heap.size + 1, 0, none⟩) (Nat.le_add_right _ _) _).setCell (p := ⟨W.heap.size + 1, 1, none⟩) (Nat.le_add_right _ _) _

set_option maxRecDepth 100000 in
theorem multiplied_any (p fct : Int) (w : World) :
    Calls Try.prog 163 #[.agg #[.int .i64 p, .int .i64 fct]] w fun e w' => e = .returned (.func (.func 175) #[] #[.pointer (some ⟨w.heap.size, 0, none⟩)]) ∧
      Boxes w' w.heap.size 126 #[.int .i64 p, .int .i64 fct] ∧ Below w.heap.size w w' := by
  have hmf : ∀ (fn : Fn) (first cap : Array Value) (w : World), (Instr.makeFunc fn first cap).run Try.prog w = .ok (.func fn first cap) w := fun _ _ _ _ => rfl
  go_enter Try.func163, Try.ntmps163
  go_wp2_with fail
  go_ret
  exact ⟨rfl, World.alloc_heap_new w _, (Below.refl w.heap.size w).alloc (Nat.le_refl _) _⟩

theorem mult_changes (g q3 n : Nat) (p fct : Int) (row : Nat → Int) (hp : 2 ≤ p) (hp1 : p ≤ 31) (hf : Elem p fct) (hr : ∀ j, j < n → Elem p (row j)) (h3 : q3 ≠ g) :
    Changes g 175 #[.pointer (some ⟨q3, 0, none⟩)] p n row (mulRow p fct) (MulInv q3 p fct) :=
  ⟨enters_of Try.func175 (by kernel_rfl) rfl, fun W W' k hb => Boxes.step k hb, fun W O u k => Boxes.other3 k h3, fun W j k hj => mult_any p (row j) fct j q3 W hp hp1 k (hr j hj) hf⟩

theorem numCells_one1 (p : Int) (zs : List Int) : ∀ u ∈ numCells p zs, u.oneCell' = true := by
  induction zs with
  | nil => intro u hu; cases hu
  | cons z zs ih =>
    intro u hu
    simp only [numCells, List.mem_cons] at hu
    rcases hu with rfl | rfl | hu
    · rfl
    · rfl
    · exact ih u hu
theorem nums_news1 {W : World} {ad : Addr} {p : Int} {zs : List Int} (h : Nums W (some ad) p zs) : ∀ j u, (numCells p zs)[j]? = some u → W.cell? (ad.add j) = some u := by
  intro j u hj
  have hlt := (List.getElem?_eq_some_iff.1 hj).1
  rw [numCells_len] at hlt
  rcases h with h | ⟨b, e, hc⟩
  · rw [h] at hlt; simp at hlt
  · cases e
    have hi : j / 2 < zs.length := by omega
    obtain ⟨h0, h1⟩ := hc (j / 2) hi
    rw [add_plain, Nat.zero_add]
    rcases Nat.mod_two_eq_zero_or_one j with hm | hm
    · have ej : j / 2 * 2 = j := by omega
      have hg := numCells_get0 p zs hi
      rw [ej] at hg h0
      rw [hg] at hj
      rw [h0]; exact hj
    · have ej : j / 2 * 2 + 1 = j := by omega
      have hg := numCells_get1 p zs hi
      rw [ej] at hg h1
      rw [hg] at hj
      rw [h1]; exact hj

set_option maxRecDepth 100000 in
set_option maxHeartbeats 400000 in
theorem cloneE_any (p : Int) (a : Option Addr) (zs : List Int) (n c : Nat) (w : World) (h : Nums w a p zs) (hz : zs.length = n) (hl : n ≤ 1048576) :
    Calls Try.prog 132 #[.slice a n c] w fun e w' => (∃ v, e = .returned v ∧ OwnN w' w.heap.size p v zs) ∧ Below w.heap.size w w' := by
  subst hz
  obtain ⟨i0, hi, hz0, hz1, hz2⟩ := info_parts Try.infoNum
  have q22 : ∀ (w : World) (a : Option Addr) (n c n' c' : Nat), (binOp .eql 173 (.slice a n c) (.slice none n' c')).run Try.prog w = .ok (.bool a.isNone) w := fun w a n c n' c' => Lib.run_eql_slice_nil w _ _ a n c n' c' Try.underlying173
  cases a with
  | none =>
    have hz : zs = [] := by
      rcases h with h | ⟨b, e, _⟩
      · exact h
      · cases e
    subst hz
    go_enter Try.func132, Try.ntmps132
    go_wp2_with fail
    go_ret
    exact ⟨⟨_, rfl, OwnN.nil _ _ _⟩, Below.refl _ _⟩
  | some ad =>
    have hown : OwnN (w.alloc (.cells #[] 126)) w.heap.size p (.slice (some ⟨w.heap.size, 0, none⟩) 0 0) [] := World.ownsRow_made w #[] 0 (Nat.le_refl _) (by unfold maxLen; omega) rfl
    have HO := Lib.hid hown
    have hb := (Below.refl w.heap.size w).alloc (Nat.le_refl _) (.cells #[] 126)
    have HB := Lib.hid hb
    have hnews := nums_news1 (h.step hb)
    clear hown hb
    go_enter Try.func132, Try.ntmps132
    go_wp2_with (at_builtin; refine wpList_append_own _ rfl _ _ 173 rfl w.heap.size 126 i0 (.agg #[.int .i64 0, .int .i64 0]) 2 16 Try.underlying173 hi hz0 hz1 hz2 rfl (by decide) _ 0 [] rfl HO.out ad zs.length c (numCells p zs) rfl (numCells_len p zs) hnews (numCells_one1 p zs) (by unfold maxLen; omega) (by omega) (by simp) ?_; intro v' w1 hown1 hgrow1 _)
    go_wp2_with fail
    go_ret
    exact ⟨⟨_, rfl, by simpa [OwnN] using hown1⟩, HB.out.grown hgrow1 (by simp) (fun q hq => (row_lt HO.out hq).1)⟩
end Go.Proofs.Ytnebkhelobpkpaa
