/- l03Prime, l03Filled: a matrix is drawn. -/
import Derived.Test.YtpifgapogbbcnaaDrw
import Derived.Test.YtpifgapogbbcnaaEm1
namespace Go.Proofs.Ytpifgapogbbcnaa
open Go.RowKit Go.Deep Go.Joins
set_option linter.unusedVariables false

theorem own_off {W W' : World} {base q : Nat} {v : Value} {us : List Value} {zss : List (List Int)} (h : Own W base v us zss) (hg : W.grownBy W' (some q)) (hq : q < base) : Own W' base v us zss :=
  ⟨h.row.kept hg (.inr (row_ge h.row hq)), h.rows.map fun u zs ho => ho.kept hg (.inr (row_ge ho hq))⟩
theorem grown_mixd {a b c : World} {q : Nat} {row : Option Nat} (h : a.grownBy b (some q)) (k : b.grownBy c row) (hr : ∀ r, row = some r → a.heap.size ≤ r) : a.grownBy c (some q) :=
  ⟨k.os.trans h.os, k.tape.trans h.tape, k.output.trans h.output, Nat.le_trans h.size k.size, fun x hx hne => (k.block x (Nat.lt_of_lt_of_le hx h.size) (fun e => by have := hr x e.symm; omega)).trans (h.block x hx hne)⟩
/-- What a source reads lies below a mark. -/
def Low (B q : Nat) (a : Option Addr) (zs : List Int) : Prop := q < B ∧ ∀ b o, a = some ⟨b, o, none⟩ → zs ≠ [] → b < B
theorem Low.le {B B' q : Nat} {a : Option Addr} {zs : List Int} (h : Low B q a zs) (hb : B ≤ B') : Low B' q a zs := ⟨by have := h.1; omega, fun b o e h0 => by have := h.2 b o e h0; omega⟩
theorem Src.low {W : World} {q : Nat} {a : Option Addr} {zs : List Int} {c k : Nat} (h : Src W q a zs c k) : Low W.heap.size q a zs := ⟨by obtain ⟨sd, hb⟩ := h.box; exact hb.lt, fun b o e h0 => by
  rcases h.bytes.1 with h1 | ⟨b', o', e', hc⟩
  · exact absurd h1 h0
  · rw [e] at e'
    cases e'
    have hl : 0 < zs.length := by
      cases zs with
      | nil => exact absurd rfl h0
      | cons _ _ => simp
    exact World.block_lt_of_cell? _ _ (hc 0 hl)⟩
/-- The source stays where what changes lies at or above the mark. -/
theorem Src.kept {W W' : World} {B q : Nat} {a : Option Addr} {zs : List Int} {c k : Nat} {row : Option Nat} (h : Src W q a zs c k) (hl : Low B q a zs) (hg : W.grownBy W' row) (hr : ∀ r, row = some r → B ≤ r) : Src W' q a zs c k := by
  obtain ⟨sd, hbx⟩ := h.box
  have h1 := hl.1
  refine ⟨⟨sd, hbx.grown hg (fun e => by have := hr q e; omega)⟩, ⟨?_, h.bytes.2⟩, h.len⟩
  by_cases h0 : zs = []
  · exact .inl h0
  rcases h.bytes.1 with h2 | ⟨b, o, e, hc⟩
  · exact absurd h2 h0
  · refine .inr ⟨b, o, e, fun i hi => ?_⟩
    have h3 := hc i hi
    have h4 := World.block_lt_of_cell? _ _ h3
    have h5 := hl.2 b o e h0
    unfold World.cell? at h3 ⊢
    rw [hg.block b h4 (fun e => by have := hr b e.symm; omega)]
    exact h3
theorem grown_put (W : World) (g o : Nat) (v : Value) : W.grownBy (W.setCell ⟨g, o, none⟩ v) (some g) := grown_cell W g o v
/-- The primes a law draws. -/
def primes12 : List Int := [2, 2, 3, 3, 5, 5, 7, 7, 11, 13, 17, 31]
theorem primes12_prm : ∀ i, i < 12 → Prm (nth primes12 i) := by
  intro i hi
  have : ∀ j : Fin 12, 2 ≤ nth primes12 j.val ∧ nth primes12 j.val ≤ 31 ∧ (∀ d : Fin 32, 2 ≤ d.val → (d.val : Int) < nth primes12 j.val → nth primes12 j.val % (d.val : Int) ≠ 0) := by decide +kernel
  obtain ⟨h1, h2, h3⟩ := this ⟨i, hi⟩
  refine ⟨h1, h2, fun d d1 d2 => ?_⟩
  simp only at h1 h2 h3
  obtain ⟨m, rfl⟩ : ∃ m : Nat, d = m := ⟨d.toNat, by omega⟩
  exact h3 ⟨m, by omega⟩ (by simp only; omega) d2

set_option maxRecDepth 100000 in
set_option maxHeartbeats 1000000 in
theorem among_any (q : Nat) (a : Option Addr) (zs : List Int) (c k : Nat) (b o : Nat) (xs : List Int) (cx : Nat) (w : World) (h : Src w q a zs c k) (hk : k ≤ 10000) (hn : 1 ≤ xs.length) (hn1 : xs.length ≤ 200) (hx : ∀ i, i < xs.length → w.cell? ⟨b, o + i, none⟩ = some (.int .i64 (nth xs i))) (hbq : b ≠ q) :
    Calls Try.prog 47 #[.pointer (some ⟨q, 0, none⟩), .slice (some ⟨b, o, none⟩) xs.length cx] w fun e w' => (∃ i, i < xs.length ∧ e = .returned (.int .i64 (nth xs i))) ∧ (∃ k', k' ≤ k + 1 ∧ Src w' q a zs c k') ∧ w.grownBy w' (some q) := by
  have HS := Lib.hid h
  have HX := Lib.hid hx
  clear h hx
  go_enter Try.func47, Try.ntmps47
  go_wp2_with fail
  refine (pick_any q a zs c k xs.length w HS.out (by omega) (by omega) (by omega)).mono ?_
  rintro e w' ⟨⟨v, rfl, v0, v1⟩, hs, hg⟩
  obtain ⟨i, rfl⟩ : ∃ i : Nat, v = i := ⟨v.toNat, by omega⟩
  have hi : i < xs.length := by omega
  have hc : w'.cell? ⟨b, o + i, none⟩ = some (.int .i64 (nth xs i)) := by
    have h0 := HX.out i hi
    have hl := World.block_lt_of_cell? _ _ h0
    unfold World.cell? at h0 ⊢
    rw [hg.block b hl (by simpa using hbq)]
    exact h0
  have H1 := Lib.hid hs
  have H2 := Lib.hid hg
  generalize hy : nth xs i = y at hc
  have HY := Lib.hid hy
  clear hs hg hy
  go_wp2_with fail
  go_ret
  exact ⟨⟨i, hi, by rw [HY.out]; rfl⟩, H1.out, H2.out⟩

set_option maxRecDepth 100000 in
set_option maxHeartbeats 1000000 in
theorem l03Prime_any (q : Nat) (a : Option Addr) (zs : List Int) (c k : Nat) (w : World) (h : Src w q a zs c k) (hk : k ≤ 1000) :
    Calls Try.prog 28 #[.pointer (some ⟨q, 0, none⟩)] w fun e w' => (∃ p : Int, e = .returned (.int .i64 p) ∧ Prm p) ∧ (∃ k', k' ≤ k + 1 ∧ Src w' q a zs c k') ∧ w.grownBy w' (some q) := by
  have HS := Lib.hid h
  clear h
  go_enter Try.func28, Try.ntmps28
  go_wp2_with fail
  refine (among_any q a zs c k (w.heap.size) 0 primes12 12 _ (HS.out.quiet ((Below.refl w.heap.size w).alloc (Nat.le_refl _) _)) (by omega) (by decide) (by decide) ?_ ?_).mono ?_
  · intro i hi
    rw [Nat.zero_add]
    have hz : i < 12 := hi
    have : ∀ j : Fin 12, (#[.int .i64 2, .int .i64 2, .int .i64 3, .int .i64 3, .int .i64 5, .int .i64 5, .int .i64 7, .int .i64 7, .int .i64 11, .int .i64 13, .int .i64 17, .int .i64 31] : Array Value)[j.val]? = some (.int .i64 (nth primes12 j.val)) := by
      intro j
      have hj := j.isLt
      rcases j with ⟨j, hj⟩
      have : j = 0 ∨ j = 1 ∨ j = 2 ∨ j = 3 ∨ j = 4 ∨ j = 5 ∨ j = 6 ∨ j = 7 ∨ j = 8 ∨ j = 9 ∨ j = 10 ∨ j = 11 := by omega
      rcases this with rfl | rfl | rfl | rfl | rfl | rfl | rfl | rfl | rfl | rfl | rfl | rfl <;> rfl
    simp only [World.cell?, World.alloc_heap_new]
    exact this ⟨i, hz⟩
  · have := HS.out.low.1; omega
  rintro e w' ⟨⟨i, hi, rfl⟩, hs, hg⟩
  have HI := Lib.hid hi
  have H1 := Lib.hid hs
  have H2 := Lib.hid hg
  clear hs hg hi
  go_wp2_with fail
  go_ret
  exact ⟨⟨_, rfl, primes12_prm i HI.out⟩, H1.out, grown_trans (grown_below ((Below.refl w.heap.size w).alloc (Nat.le_refl _) _)) H2.out⟩
end Go.Proofs.Ytpifgapogbbcnaa
