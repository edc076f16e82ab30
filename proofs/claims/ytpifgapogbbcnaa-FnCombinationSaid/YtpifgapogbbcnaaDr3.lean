/- l00From, l03Drawn, A2Matrix, A2Elements: what is drawn from a law's bytes; a2Dot. -/
import Derived.Test.YtpifgapogbbcnaaDr2
import Derived.Test.YtpifgapogbbcnaaRd6
import Derived.Test.YtpifgapogbbcnaaEcr
import Derived.BigQuiet
namespace Go.Proofs.Ytpifgapogbbcnaa
open Go.RowKit Go.Deep Go.Joins
set_option linter.unusedVariables false

set_option maxRecDepth 100000 in
set_option maxHeartbeats 1000000 in
theorem l00From_any (a : Option Addr) (zs : List Int) (c : Nat) (w : World) (h : Bytes w a zs) (hl : zs.length ≤ 3000) :
    Calls Try.prog 16 #[.slice a zs.length c] w fun e w' => e = .returned (.pointer (some ⟨w.heap.size, 0, none⟩)) ∧ Src w' w.heap.size a zs c 0 ∧ Below w.heap.size w w' := by
  have HB := Lib.hid h
  clear h
  go_enter Try.func16, Try.ntmps16
  go_wp2_with fail
  go_ret
  have hb := (Below.refl w.heap.size w).alloc (Nat.le_refl _) (.cells #[.slice a zs.length c, .int .i64 0, .int .u64 0] 65)
  refine ⟨rfl, ⟨⟨0, World.alloc_heap_new _ _⟩, ⟨?_, HB.out.2⟩, hl⟩, hb⟩
  rcases HB.out.1 with h1 | ⟨b, o, e, hc⟩
  · exact .inl h1
  · exact .inr ⟨b, o, e, fun i hi => cell_step hb (hc i hi)⟩

set_option maxRecDepth 100000 in
set_option maxHeartbeats 1000000 in
theorem l03Drawn_any (q : Nat) (a : Option Addr) (zs : List Int) (c k0 : Nat) (w : World) (h : Src w q a zs c k0) (hk0 : k0 ≤ 100) :
    Calls Try.prog 15 #[.pointer (some ⟨q, 0, none⟩)] w fun e w' => (∃ (p : Int) (m n : Nat) (va : Option Addr) (vc : Nat), e = .returned (.agg #[.int .i64 p, .int .i64 (n : Int), .slice va m vc]) ∧ Prm p ∧ m ≤ 5 ∧ n ≤ 5 ∧ ∃ us f, OwnM w' w.heap.size va m vc us n f ∧ ∀ i, i < m → ∀ j, j < n → Elem p (f i j)) ∧ w.grownBy w' (some q) := by
  have HS := Lib.hid h
  have hq := h.low.1
  clear h
  go_enter Try.func15, Try.ntmps15
  go_wp2_with fail
  have hb1 := (Below.refl w.heap.size w).alloc (Nat.le_refl _) (.cells #[.int .i64 0, .int .i64 0, .slice none 0 0] 26)
  have hy : Boxes (w.alloc (.cells #[.int .i64 0, .int .i64 0, .slice none 0 0] 26)) w.heap.size 26 #[.int .i64 0, .int .i64 0, .slice none 0 0] := World.alloc_heap_new _ _
  have HS1 := Lib.hid (HS.out.quiet hb1)
  have HG1 := Lib.hid (grown_below (g := q) hb1)
  generalize w.alloc (.cells #[.int .i64 0, .int .i64 0, .slice none 0 0] 26) = w1 at *
  have HY1 := Lib.hid hy
  clear hb1 hy HS
  refine (l03Prime_any q a zs c k0 w1 HS1.out (by omega)).mono ?_
  rintro e w2 ⟨⟨p, rfl, hp⟩, ⟨k2, hk2, hs2⟩, hg2⟩
  have HP := Lib.hid hp
  have hp0 := hp.1
  have hp1 := hp.2.1
  have HS2 := Lib.hid hs2
  have HG2 := Lib.hid (grown_trans HG1.out hg2)
  have HY2 := Lib.hid (HY1.out.grown hg2 (by simp; omega))
  clear hs2 hg2 HS1 HG1 HY1 hp
  go_wp2_with fail
  refine (pick_any q a zs c k2 6 w2 HS2.out (by omega) (by omega) (by omega)).mono ?_
  rintro e w3 ⟨⟨v1, rfl, v10, v11⟩, ⟨k3, hk3, hs3⟩, hg3⟩
  have HS3 := Lib.hid hs3
  have HG3 := Lib.hid (grown_trans HG2.out hg3)
  have HY3 := Lib.hid (HY2.out.grown hg3 (by simp; omega))
  clear hs3 hg3 HS2 HG2 HY2
  go_wp2_with fail
  refine (pick_any q a zs c k3 6 w3 HS3.out (by omega) (by omega) (by omega)).mono ?_
  rintro e w4 ⟨⟨v2, rfl, v20, v21⟩, ⟨k4, hk4, hs4⟩, hg4⟩
  have HS4 := Lib.hid hs4
  have HG4 := Lib.hid (grown_trans HG3.out hg4)
  have HY4 := Lib.hid (HY3.out.grown hg4 (by simp; omega))
  clear hs4 hg4 HS3 HG3 HY3
  obtain ⟨m, rfl⟩ : ∃ r : Nat, v1 = r := ⟨v1.toNat, by omega⟩
  obtain ⟨n, rfl⟩ : ∃ r : Nat, v2 = r := ⟨v2.toNat, by omega⟩
  go_wp2_with fail
  refine (l03Filled_any q a zs c k4 p m n w4 HS4.out (by omega) (by omega) (by omega) (by omega) (by omega)).mono ?_
  rintro e w5 ⟨⟨va, vc, us, f, rfl, hom, hel⟩, hg5⟩
  have HOM := Lib.hid hom
  have HEL := Lib.hid hel
  have HG5 := Lib.hid (grown_trans HG4.out hg5)
  have HY5 := Lib.hid (HY4.out.grown hg5 (by simp; omega))
  have hsz : w.heap.size ≤ w4.heap.size := HG4.out.size
  clear hg5 hom hel HS4 HG4 HY4
  have r0 := HY5.out.m0
  have r1 := HY5.out.m1
  have r2 := HY5.out.m2
  have s0 := HY5.out.frozen 0
  have s1 := HY5.out.frozen 1
  have s2 := HY5.out.frozen 2
  have wl := HY5.out.lt
  go_wp2_with fail
  refine bodyPost_ret (v := .agg #[.int .i64 p, .int .i64 (n : Int), .slice va m vc]) (by simp [results, Try.results15, go_sem, r0, r1, r2]) rfl ?_
  have hk : ∀ t, t ≠ 26 → KeepT t _ _ := fun t ht => KeepT.set3 HY5.out ht (.int .i64 p) (.int .i64 (n : Int)) (.slice va m vc)
  exact ⟨⟨p, m, n, va, vc, rfl, HP.out, by omega, by omega, us, f, (HOM.out.keepT (hk _ (by decide)) (hk _ (by decide))).mono hsz, HEL.out⟩, grown_mixd HG5.out (grown_trans (grown_trans (grown_cell _ w.heap.size 0 _) (grown_cell _ w.heap.size 1 _)) (grown_cell _ w.heap.size 2 _)) (fun r hr => by cases hr; exact Nat.le_refl _)⟩

theorem tab_ok {p : Int} {m n : Nat} {f : Nat → Nat → Int} (hp : Prm p) (hm : m ≤ 5) (hn : n ≤ 5) (hel : ∀ i, i < m → ∀ j, j < n → Elem p (f i j)) : MatOk p n (tab m n f) := by
  refine ⟨hp, ⟨by omega, by omega⟩, by rw [tab_len]; omega, fun r hr => ?_⟩
  rw [tab_len] at hr
  rw [rowOf_tab _ _ _ hr]
  refine ⟨by rw [rowOf_len], fun j hj => ?_⟩
  rw [rowOf_len] at hj
  rw [rowOf_at _ _ hj]
  exact hel r hr j hj

set_option maxRecDepth 100000 in
set_option maxHeartbeats 1000000 in
theorem A2Matrix_any (a : Option Addr) (zs : List Int) (c : Nat) (w : World) (h : Bytes w a zs) (hl : zs.length ≤ 3000) :
    Calls Try.prog 6 #[.slice a zs.length c] w fun e w' => (∃ (p : Int) (n : Nat) (va : Option Addr) (z : List (List Int)) (vc : Nat), e = .returned (.agg #[.int .i64 p, .int .i64 (n : Int), .slice va z.length vc]) ∧ MatOk p n z ∧ n ≤ 5 ∧ z.length ≤ 5 ∧ Rows2 w' va z) ∧ Below w.heap.size w w' := by
  have HB := Lib.hid h
  clear h
  go_enter Try.func6, Try.ntmps6
  go_wp2_with fail
  have hb1 := (Below.refl w.heap.size w).alloc (Nat.le_refl _) (.cells #[.int .i64 0, .int .i64 0, .slice none 0 0] 26)
  have hy : Boxes (w.alloc (.cells #[.int .i64 0, .int .i64 0, .slice none 0 0] 26)) w.heap.size 26 #[.int .i64 0, .int .i64 0, .slice none 0 0] := World.alloc_heap_new _ _
  have HB1 := Lib.hid (show Bytes (w.alloc (.cells #[.int .i64 0, .int .i64 0, .slice none 0 0] 26)) a zs from ⟨by
    rcases HB.out.1 with h1 | ⟨b, o, e, hc⟩
    · exact .inl h1
    · exact .inr ⟨b, o, e, fun i hi => cell_step hb1 (hc i hi)⟩, HB.out.2⟩)
  generalize w.alloc (.cells #[.int .i64 0, .int .i64 0, .slice none 0 0] 26) = w1 at *
  have hsz1 : w.heap.size < w1.heap.size := hy.lt
  refine (l00From_any a zs c w1 HB1.out hl).mono ?_
  rintro e w2 ⟨rfl, hs2, hb2⟩
  have HS2 := Lib.hid hs2
  have HY2 := Lib.hid (hy.step hb2)
  have HBW := Lib.hid (hb1.trans (hb2.mono hb1.size))
  clear hb1 hy hs2 hb2
  generalize hq : w1.heap.size = q at *
  go_wp2_with fail
  refine (l03Drawn_any q a zs c 0 w2 HS2.out (by omega)).mono ?_
  rintro e w3 ⟨⟨p, m, n, va, vc, rfl, hp, hm, hn, us, f, hom, hel⟩, hg3⟩
  have HP := Lib.hid hp
  have HOM := Lib.hid hom
  have HEL := Lib.hid hel
  have HY3 := Lib.hid (HY2.out.grown hg3 (by simp; omega))
  have hsz2 : w.heap.size ≤ w2.heap.size := HBW.out.size
  have HB3 := Lib.hid (below_grown1 HBW.out hg3 hsz2 (by omega))
  clear hp hom hel hg3 HY2
  have r0 := HY3.out.m0
  have r1 := HY3.out.m1
  have r2 := HY3.out.m2
  have s0 := HY3.out.frozen 0
  have s1 := HY3.out.frozen 1
  have s2 := HY3.out.frozen 2
  have wl := HY3.out.lt
  go_wp2_with fail
  refine bodyPost_ret (v := .agg #[.int .i64 p, .int .i64 (n : Int), .slice va m vc]) (by simp [results, Try.results6, go_sem, r0, r1, r2]) rfl ?_
  have hk : ∀ t, t ≠ 26 → KeepT t _ _ := fun t ht => KeepT.set3 HY3.out ht (.int .i64 p) (.int .i64 (n : Int)) (.slice va m vc)
  refine ⟨⟨p, n, va, tab m n f, vc, by rw [tab_len], tab_ok HP.out hm hn HEL.out, hn, by rw [tab_len]; exact hm, (HOM.out.keepT (hk _ (by decide)) (hk _ (by decide))).take (Nat.le_refl _)⟩, ((HB3.out.setCell (p := ⟨w.heap.size, 0, none⟩) (Nat.le_refl _) _).setCell (p := ⟨w.heap.size, 1, none⟩) (Nat.le_refl _) _).setCell (p := ⟨w.heap.size, 2, none⟩) (Nat.le_refl _) _⟩

theorem dot_step (p s x y : Int) : (s % p + x * y) % p = (s + x * y) % p := by rw [Int.add_emod, Int.emod_emod, ← Int.add_emod]

set_option maxRecDepth 100000 in
set_option maxHeartbeats 1000000 in
/-- The law's product of two rows. -/
theorem a2Dot_any (p : Int) (a b : Option Addr) (xs ys : List Int) (ca cb n : Nat) (w : World) (hx : Ints w a xs) (hy : Ints w b ys) (hlx : xs.length = n) (hly : ys.length = n) (hn : n ≤ 1000) (hp : 2 ≤ p) (hp1 : p ≤ 31) (hex : Elems p xs) (hey : Elems p ys) :
    Calls Try.prog 10 #[.int .i64 p, .slice a n ca, .slice b n cb] w fun e w' => e = .returned (.int .i64 (dotTo (nth xs) (nth ys) n % p)) ∧ Quiet w w' := by
  have HX := Lib.hid hx
  have HY := Lib.hid hy
  have HEX := Lib.hid hex
  have HEY := Lib.hid hey
  have HLX := Lib.hid hlx
  have HLY := Lib.hid hly
  have p0 : p ≠ 0 := by omega
  clear hx hy hex hey hlx hly
  go_enter Try.func10, Try.ntmps10
  go_wp2_with fail
  go_loopw [7, 8] (fun s i wr => ∃ j : Nat, j ≤ n ∧ s = .int .i64 (dotTo (nth xs) (nth ys) j % p) ∧ i = .int .i64 j ∧ Quiet w wr)
    (fun _ i _ => n - (intOf i).toNat)
  case atStart => exact ⟨0, Nat.zero_le _, by simp [dotTo], rfl, Quiet.refl _⟩
  case round =>
    obtain ⟨j, hj, rfl, rfl, hb⟩ := hrel
    have HB := Lib.hid hb
    clear hb
    by_cases hlt : j < n
    · have hj0 : (j : Int) < (n : Int) := by omega
      have hlx := HLX.out
      have hly := HLY.out
      rcases HX.out.quiet HB.out with h | ⟨b1, o1, rfl, hc1⟩
      · rw [h] at hlx; simp at hlx; omega
      rcases HY.out.quiet HB.out with h | ⟨b2, o2, rfl, hc2⟩
      · rw [h] at hly; simp at hly; omega
      have d1 := hc1 j (by omega)
      have d2 := hc2 j (by omega)
      have l1 := World.block_lt_of_cell? _ _ d1
      have l2 := World.block_lt_of_cell? _ _ d2
      obtain ⟨x0, x1⟩ := HEX.out j (by omega)
      obtain ⟨y0, y1⟩ := HEY.out j (by omega)
      have HST := Lib.hid (show (dotTo (nth xs) (nth ys) j % p + nth xs j * nth ys j) % p = dotTo (nth xs) (nth ys) (j + 1) % p from dot_step p _ _ _)
      obtain ⟨m0, m1⟩ := mul_bounds hp1 ⟨x0, x1⟩ ⟨y0, y1⟩
      have s0 := Int.emod_nonneg (dotTo (nth xs) (nth ys) j) p0
      have s1 := Int.emod_lt_of_pos (dotTo (nth xs) (nth ys) j) (show 0 < p by omega)
      generalize dotTo (nth xs) (nth ys) j % p = s at *
      generalize nth xs j = x at *
      generalize nth ys j = y at *
      clear hc1 hc2 hlx hly
      go_wp2_with fail
      go_quiet (fail)
      go_wp2_with fail
      go_roundw
      case rel => exact ⟨j + 1, by omega, by rw [HST.out], by go_num, HB.out.trans ⟨_, rfl⟩⟩
      case measure => simp [intOf]; omega
    · have hj0 : ¬ (j : Int) < (n : Int) := by omega
      obtain rfl : j = n := by omega
      go_wp2_with fail
      go_ret
      exact ⟨rfl, HB.out⟩
end Go.Proofs.Ytpifgapogbbcnaa
