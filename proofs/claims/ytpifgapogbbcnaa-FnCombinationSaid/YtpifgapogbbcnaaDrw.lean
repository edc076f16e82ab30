/- What is drawn from bytes: next, pick, one, among. -/
import Derived.Test.YtpifgapogbbcnaaByt
import Derived.Test.YtpifgapogbbcnaaElt
import Derived.Test.YtpifgapogbbcnaaMat
import Derived.Test.YtpifgapogbbcnaaChr
namespace Go.Proofs.Ytpifgapogbbcnaa
open Go.ChangeShapes Go.WideShapes Go.ChangeAt Go.RowKit Go.Deep Go.Joins
set_option linter.unusedVariables false

/-- A source that has drawn k times. -/
structure Src (W : World) (q : Nat) (a : Option Addr) (zs : List Int) (c k : Nat) : Prop where
  box : ∃ sd : Int, Boxes W q 65 #[.slice a zs.length c, .int .i64 (k : Int), .int .u64 sd]
  bytes : Bytes W a zs
  len : zs.length ≤ 3000
theorem Bytes.block {W W' : World} {a : Option Addr} {zs : List Int} {q : Nat} (h : Bytes W a zs) (hq : ∀ b o, a = some ⟨b, o, none⟩ → zs ≠ [] → b ≠ q) (hg : W.grownBy W' (some q)) : Bytes W' a zs := by
  refine ⟨?_, h.2⟩
  rcases h.1 with h1 | ⟨b, o, e, hc⟩
  · exact .inl h1
  · by_cases h0 : zs = []
    · exact .inl h0
    · refine .inr ⟨b, o, e, fun i hi => ?_⟩
      have h2 := hc i hi
      have hl := World.block_lt_of_cell? _ _ h2
      have hne := hq b o e h0
      unfold World.cell? at h2 ⊢
      rw [hg.block b hl (by simpa using hne)]
      exact h2

theorem grown_cell (W : World) (g o : Nat) (v : Value) : W.grownBy (W.setCell ⟨g, o, none⟩ v) (some g) := ⟨rfl, rfl, rfl, (KeepsWalks.setCell W _ _).size, fun b _ hq => Below.heap_setCell _ _ _ b (fun e => hq (by rw [e]))⟩
theorem src_ne {W : World} {q b o : Nat} {v0 : Value} {x y z : Int} {t : TypeId} {sp : Option Addr} {n c : Nat} (h : Boxes W q t #[.slice sp n c, .int .i64 x, .int .u64 y]) (hc : W.cell? ⟨b, o, none⟩ = some (.int .u8 z)) : b ≠ q := by
  intro e
  subst e
  rw [h.cell] at hc
  match o, hc with
  | 0, hc => simp at hc
  | 1, hc => simp at hc
  | 2, hc => simp at hc
  | n + 3, hc => simp at hc
theorem Src.ne {W : World} {q : Nat} {a : Option Addr} {zs : List Int} {c k : Nat} (h : Src W q a zs c k) : ∀ b o, a = some ⟨b, o, none⟩ → zs ≠ [] → b ≠ q := fun b o e h0 => by
  obtain ⟨sd, hbx⟩ := h.box
  rcases h.bytes.1 with h1 | ⟨b', o', e', hc⟩
  · exact absurd h1 h0
  · rw [e] at e'
    cases e'
    have hl : 0 < zs.length := by
      cases zs with
      | nil => exact absurd rfl h0
      | cons _ _ => simp
    exact src_ne (v0 := .bool true) hbx (hc 0 hl)
theorem Src.quiet {W W' : World} {q : Nat} {a : Option Addr} {zs : List Int} {c k : Nat} (h : Src W q a zs c k) (hb : Below W.heap.size W W') : Src W' q a zs c k := by
  obtain ⟨sd, hbx⟩ := h.box
  refine ⟨⟨sd, hbx.step hb⟩, ⟨?_, h.bytes.2⟩, h.len⟩
  rcases h.bytes.1 with h1 | ⟨b, o, e, hc⟩
  · exact .inl h1
  · exact .inr ⟨b, o, e, fun i hi => cell_step hb (hc i hi)⟩
theorem Src.drawn {W : World} {q : Nat} {a : Option Addr} {zs : List Int} {c k : Nat} (h : Src W q a zs c k) (y : Int) :
    Src ((W.setCell ⟨q, 1, none⟩ (.int .i64 ((k : Int) + 1))).setCell ⟨q, 2, none⟩ (.int .u64 y)) q a zs c (k + 1) ∧ W.grownBy ((W.setCell ⟨q, 1, none⟩ (.int .i64 ((k : Int) + 1))).setCell ⟨q, 2, none⟩ (.int .u64 y)) (some q) := by
  have hg := grown_trans (grown_cell W q 1 (.int .i64 ((k : Int) + 1))) (grown_cell (W.setCell ⟨q, 1, none⟩ (.int .i64 ((k : Int) + 1))) q 2 (.int .u64 y))
  obtain ⟨sd, hbx⟩ := h.box
  refine ⟨⟨⟨y, ?_⟩, h.bytes.block h.ne hg, h.len⟩, hg⟩
  unfold Boxes at hbx ⊢
  simp [World.setCell, Array.getElem?_modify, hbx]

theorem and_byte (x : Int) : 0 ≤ wrap64 (bits .and .u64 x 255) ∧ wrap64 (bits .and .u64 x 255) ≤ 255 := by
  have h : ∃ n : Nat, n ≤ 255 ∧ bits .and .u64 x 255 = IntKind.u64.wrap (n : Int) := by
    refine ⟨(BitVec.ofInt IntKind.u64.bits x &&& BitVec.ofInt IntKind.u64.bits 255).toNat, ?_, rfl⟩
    rw [BitVec.toNat_and]
    exact Nat.le_trans Nat.and_le_right (by decide)
  obtain ⟨n, h1, h2⟩ := h
  rw [h2, IntKind.wrap_u64, Int.emod_eq_of_lt (by omega) (by omega)]
  have e : wrap64 (n : Int) = n := by unfold wrap64; omega
  rw [e]
  omega
set_option maxRecDepth 100000 in
set_option maxHeartbeats 1000000 in
theorem next_any (q : Nat) (a : Option Addr) (zs : List Int) (c k : Nat) (w : World) (h : Src w q a zs c k) (hk : k ≤ 100000) :
    Calls Try.prog 29 #[.pointer (some ⟨q, 0, none⟩)] w fun e w' => (∃ v : Int, e = .returned (.int .i64 v) ∧ 0 ≤ v ∧ v ≤ 255) ∧ Src w' q a zs c (k + 1) ∧ w.grownBy w' (some q) := by
  obtain ⟨sd, hbx⟩ := h.box
  have HS := Lib.hid h
  have x0 := hbx.m0
  have x1 := hbx.m1
  have x2 := hbx.m2
  have f0 := hbx.frozen 0
  have f1 := hbx.frozen 1
  have f2 := hbx.frozen 2
  have xl := hbx.lt
  have hl3 := h.len
  clear hbx
  by_cases hlt : k < zs.length
  · have hk0 : (k : Int) < (zs.length : Int) := by omega
    have hk1 : (k : Int) + 1 ≤ (zs.length : Int) := by omega
    obtain ⟨h1, h2⟩ := h.bytes
    rcases h1 with h9 | ⟨b, o, rfl, hc⟩
    · rw [h9] at hlt; exact absurd hlt (Nat.not_lt_zero _)
    have hcell := hc k hlt
    have hcl := World.block_lt_of_cell? _ _ hcell
    obtain ⟨b0, b1⟩ := h2 k hlt
    generalize nth zs k = x at hcell b0 b1
    clear hc h2 h
    go_enter Try.func29, Try.ntmps29
    go_wp2_with fail
    go_region
    go_wp2_with fail
    go_region
    go_wp2_with fail
    go_region
    go_wp2_with fail
    go_ret
    exact ⟨⟨x, rfl, b0, b1⟩, ((((HS.out.drawn _).1.quiet (drew_step _)).quiet (drew_step _)).quiet (drew_step _)), grown_trans (grown_trans (grown_trans (HS.out.drawn _).2 (grown_below (drew_step _))) (grown_below (drew_step _))) (grown_below (drew_step _))⟩
  · have hk0 : ¬ (k : Int) < (zs.length : Int) := by omega
    have hk1 : ¬ (k : Int) + 1 ≤ (zs.length : Int) := by omega
    have hk2 : (zs.length : Int) < (k : Int) + 1 := by omega
    clear h
    go_enter Try.func29, Try.ntmps29
    go_wp2_with fail
    go_region
    go_wp2_with fail
    go_region
    go_wp2_with fail
    go_ret
    exact ⟨⟨_, rfl, (and_byte _).1, (and_byte _).2⟩, ((HS.out.drawn _).1.quiet (drew_step _)).quiet (drew_step _), grown_trans (grown_trans (HS.out.drawn _).2 (grown_below (drew_step _))) (grown_below (drew_step _))⟩
set_option maxRecDepth 100000 in
set_option maxHeartbeats 1000000 in
/-- A number below n is drawn; at most two bytes are read. -/
theorem pick_any (q : Nat) (a : Option Addr) (zs : List Int) (c k : Nat) (n : Int) (w : World) (h : Src w q a zs c k) (hk : k ≤ 10000) (hn : 1 ≤ n) (hn1 : n ≤ 200) :
    Calls Try.prog 17 #[.pointer (some ⟨q, 0, none⟩), .int .i64 n] w fun e w' => (∃ v : Int, e = .returned (.int .i64 v) ∧ 0 ≤ v ∧ v < n) ∧ (∃ k', k' ≤ k + 1 ∧ Src w' q a zs c k') ∧ w.grownBy w' (some q) := by
  by_cases h1 : n ≤ 1
  · go_enter Try.func17, Try.ntmps17
    go_wp2_with fail
    go_ret
    exact ⟨⟨0, rfl, by omega, by omega⟩, ⟨k, by omega, h⟩, grown_below (Below.refl _ _)⟩
  · have h2 : ¬ 200 < n := by omega
    have HS := Lib.hid h
    clear h
    go_enter Try.func17, Try.ntmps17
    go_wp2_with fail
    refine (next_any q a zs c k w HS.out (by omega)).mono ?_
    rintro e w' ⟨⟨v, rfl, v0, v1⟩, hs, hg⟩
    have H1 := Lib.hid hs
    have H2 := Lib.hid hg
    clear hs hg
    go_wp2_with fail
    go_ret
    exact ⟨⟨_, rfl, Int.emod_nonneg _ (by omega), Int.emod_lt_of_pos _ (by omega)⟩, ⟨k + 1, by omega, H1.out⟩, H2.out⟩
set_option maxRecDepth 100000 in
set_option maxHeartbeats 1000000 in
theorem one_any (q : Nat) (a : Option Addr) (zs : List Int) (c k : Nat) (n : Int) (w : World) (h : Src w q a zs c k) (hk : k ≤ 10000) (hn : 1 ≤ n) (hn1 : n ≤ 200) :
    Calls Try.prog 46 #[.pointer (some ⟨q, 0, none⟩), .int .i64 n] w fun e w' => (∃ b : Bool, e = .returned (.bool b)) ∧ (∃ k', k' ≤ k + 1 ∧ Src w' q a zs c k') ∧ w.grownBy w' (some q) := by
  have HS := Lib.hid h
  clear h
  go_enter Try.func46, Try.ntmps46
  go_wp2_with fail
  refine (pick_any q a zs c k n w HS.out (by omega) (by omega) (by omega)).mono ?_
  rintro e w' ⟨⟨v, rfl, v0, v1⟩, hs, hg⟩
  have H1 := Lib.hid hs
  have H2 := Lib.hid hg
  clear hs hg
  go_wp2_with fail
  go_ret
  exact ⟨⟨_, rfl⟩, H1.out, H2.out⟩
end Go.Proofs.Ytpifgapogbbcnaa
