/- ValidRanks of the program. -/
import Derived.Test.YthmjcmhaijiedaaDoorRvp
namespace Go.Proofs.YthmjcmhaijiedaaDoor
open Go.RowKit Go.Deep
set_option linter.unusedVariables false

theorem region_class {P : Program} {id : Nat} {Q : Exit → Act → World → Prop} {a : Act} {w : World} {l : List Oper} (C : World → Prop) (hm : P.follows .mixedOrders = true) (hB : Region.lexB .any l.toArray = true) (hC : C w.drew)
    (h : wpQuiet P l.toArray C (fun a' => ∀ w', C w' → Q .normal a' w') l a) : (Code.region id l.toArray true).wp P Q a w :=
  wp_region_quiet (C := C) hm hB hC (by simpa using h)
/-- The worlds behind a world, as the values of a function. -/
theorem class_of (w : World) : ∃ f : Option World → World, (∀ t, Below w.heap.size w (f t)) ∧ ∀ w', Below w.heap.size w w' → ∃ t, w' = f t := by
  classical
  refine ⟨fun t => match t with | some W => if Below w.heap.size w W then W else w | none => w, fun t => ?_, fun w' h => ⟨some w', by simp [h]⟩⟩
  cases t with
  | none => exact Below.refl _ _
  | some W => by_cases h : Below w.heap.size w W <;> simp [h]; exact Below.refl _ _

theorem least_of (p : Nat → Prop) : ∀ n, p n → ∃ m, p m ∧ m ≤ n ∧ ∀ k, k < m → ¬ p k := by
  intro n
  induction n using Nat.strongRecOn with
  | _ n ih =>
    intro hn
    by_cases h : ∃ k, k < n ∧ p k
    · obtain ⟨k, hk, hp⟩ := h
      obtain ⟨m, hm, hle, hl⟩ := ih k hk hp
      exact ⟨m, hm, by omega, hl⟩
    · exact ⟨n, hn, Nat.le_refl _, fun k hk hp => h ⟨k, hk, hp⟩⟩
theorem fault_first {z : List Int} {n : Nat} (h : ¬ NoFault z n) : ∃ a b, FaultAt z n a b := by
  have h1 : ∃ a, a < n ∧ ∃ b, b < n ∧ BadAt z a b := by
    false_or_by_contra
    rename_i k
    exact h fun a ha b hb f => k ⟨a, ha, b, hb, f⟩
  obtain ⟨a0, h1⟩ := h1
  obtain ⟨a, ⟨ha, b0, hb0, hf⟩, -, hl⟩ := least_of (fun a => a < n ∧ ∃ b, b < n ∧ BadAt z a b) a0 h1
  obtain ⟨b, ⟨hb, hfb⟩, -, hlb⟩ := least_of (fun b => b < n ∧ BadAt z a b) b0 ⟨hb0, hf⟩
  exact ⟨a, b, ha, hb, hfb, fun x hx y hy f => hl x hx ⟨by omega, y, hy, f⟩, fun y hy f => hlb y hy ⟨by omega, f⟩⟩
theorem fault_one {z : List Int} {n a b a' b' : Nat} (h : FaultAt z n a b) (k : FaultAt z n a' b') : a = a' ∧ b = b' := by
  obtain ⟨h1, h2, h3, h4, h5⟩ := h
  obtain ⟨k1, k2, k3, k4, k5⟩ := k
  have e : a = a' := by
    rcases Nat.lt_trichotomy a a' with q | q | q
    · exact absurd h3 (k4 a q b h2)
    · exact q
    · exact absurd k3 (h4 a' q b' k2)
  subst e
  refine ⟨rfl, ?_⟩
  rcases Nat.lt_trichotomy b b' with q | q | q
  · exact absurd h3 (k5 b q)
  · exact q
  · exact absurd k3 (h5 b' q)
open Classical in
noncomputable def fltA (z : List Int) (n : Nat) : Nat := if h : ∃ p : Nat × Nat, FaultAt z n p.1 p.2 then (Classical.choose h).1 else 0
open Classical in
noncomputable def fltB (z : List Int) (n : Nat) : Nat := if h : ∃ p : Nat × Nat, FaultAt z n p.1 p.2 then (Classical.choose h).2 else 0
noncomputable def fltO (z : List Int) (n : Nat) : Bool := tell (¬ NoFault z n)
theorem flt_at {z : List Int} {n a b : Nat} (h : FaultAt z n a b) : fltA z n = a ∧ fltB z n = b ∧ fltO z n = true := by
  have hx : ∃ p : Nat × Nat, FaultAt z n p.1 p.2 := ⟨(a, b), h⟩
  have := fault_one (Classical.choose_spec hx) h
  refine ⟨by unfold fltA; rw [dif_pos hx]; exact this.1, by unfold fltB; rw [dif_pos hx]; exact this.2, tell_true fun k => k a h.1 b h.2.1 h.2.2.1⟩
theorem flt_no {z : List Int} {n : Nat} (h : NoFault z n) : fltA z n = 0 ∧ fltB z n = 0 ∧ fltO z n = false := by
  have hx : ¬ ∃ p : Nat × Nat, FaultAt z n p.1 p.2 := fun ⟨p, f⟩ => h _ f.1 _ f.2.1 f.2.2.1
  exact ⟨by unfold fltA; rw [dif_neg hx], by unfold fltB; rw [dif_neg hx], tell_false fun k => k h⟩
theorem firstFault_val (z : List Int) (m n : Nat) (w : World) (hm : m ≤ 5) (hn : 2 ^ m = n) (hz : Mild z) :
    Calls Tryd.prog 104 #[.agg (arr32 z), .int .i64 (m : Nat)] w fun e w' => e = .returned (.tuple #[.int .u64 (fltA z n : Nat), .int .u64 (fltB z n : Nat), .bool (fltO z n)]) ∧ Below w.heap.size w w' := by
  refine (firstFault_any z m n w hm hn hz).mono ?_
  rintro e w' ⟨h, hb⟩
  rcases h with ⟨a, b, rfl, hf⟩ | ⟨rfl, hn⟩
  · obtain ⟨e1, e2, e3⟩ := flt_at hf
    exact ⟨by rw [e1, e2, e3], hb⟩
  · obtain ⟨e1, e2, e3⟩ := flt_no hn
    exact ⟨by rw [e1, e2, e3]; rfl, hb⟩

set_option maxRecDepth 100000 in
set_option maxHeartbeats 4000000 in
theorem implVr_any (h l : Int) (a : Option Addr) (z : List Int) (c : Nat) (w : World) (hr : Ints w a z) (hl : LenI z) :
    Calls Tryd.prog 101 #[.agg #[.int .i64 h, .int .i64 l, .slice a z.length c]] w fun e w' => e = .returned (.bool (tell (RkOk h l z))) ∧ Below w.heap.size w w' := by
  have hln := hl.n
  have hx := boxes_new w #[.int .i64 h, .int .i64 l, .slice a z.length c] 32
  have hb1 := (Below.refl w.heap.size w).alloc (Nat.le_refl _) (.cells #[.int .i64 h, .int .i64 l, .slice a z.length c] 32)
  have c0 := hx.m0
  have c1 := hx.m1
  have c2 := hx.m2
  have hlt := hx.lt
  have HB := Lib.hid hb1
  have HR := Lib.hid (hr.step hb1)
  clear hl hx hr hb1
  by_cases h1 : h < 1
  · have d1 : decide (h < 1) = true := by simp [h1]
    have HN := Lib.hid (tell_false (p := RkOk h l z) (fun f => by have := f.1.1.1; omega))
    clear h1
    go_enter Tryd.func101, Tryd.ntmps101
    go_wp2
    generalize w.alloc (.cells #[.int .i64 h, .int .i64 l, .slice a z.length c] 32) = w1 at *
    go_big_quiet (fail)
    go_wp2
    go_ret
    exact ⟨ret_bool HN.out.symm, chain HB.out (quiet_below ⟨_, rfl⟩)⟩
  have d1 : decide (h < 1) = false := by simp; omega
  by_cases h2 : 5 < h
  · have d2 : decide (5 < h) = true := by simp [h2]
    have HN := Lib.hid (tell_false (p := RkOk h l z) (fun f => by have := f.1.1.2; omega))
    clear h1 h2
    go_enter Tryd.func101, Tryd.ntmps101
    go_wp2
    generalize w.alloc (.cells #[.int .i64 h, .int .i64 l, .slice a z.length c] 32) = w1 at *
    go_big_quiet (fail)
    go_wp2
    go_ret
    exact ⟨ret_bool HN.out.symm, chain HB.out (quiet_below ⟨_, rfl⟩)⟩
  have d2 : decide (5 < h) = false := by simp; omega
  by_cases h3 : l < 1
  · have d3 : decide (l < 1) = true := by simp [h3]
    have HN := Lib.hid (tell_false (p := RkOk h l z) (fun f => by have := f.1.2.1.1; omega))
    clear h1 h2 h3
    go_enter Tryd.func101, Tryd.ntmps101
    go_wp2
    generalize w.alloc (.cells #[.int .i64 h, .int .i64 l, .slice a z.length c] 32) = w1 at *
    go_big_quiet (fail)
    go_wp2
    go_ret
    exact ⟨ret_bool HN.out.symm, chain HB.out (quiet_below ⟨_, rfl⟩)⟩
  have d3 : decide (l < 1) = false := by simp; omega
  by_cases h4 : 100000 < l
  · have d4 : decide (100000 < l) = true := by simp [h4]
    have HN := Lib.hid (tell_false (p := RkOk h l z) (fun f => by have := f.1.2.1.2; omega))
    clear h1 h2 h3 h4
    go_enter Tryd.func101, Tryd.ntmps101
    go_wp2
    generalize w.alloc (.cells #[.int .i64 h, .int .i64 l, .slice a z.length c] 32) = w1 at *
    go_big_quiet (fail)
    go_wp2
    go_ret
    exact ⟨ret_bool HN.out.symm, chain HB.out (quiet_below ⟨_, rfl⟩)⟩
  have d4 : decide (100000 < l) = false := by simp; omega
  have H34 := Lib.hid (show 1 ≤ l ∧ l ≤ 100000 from ⟨by omega, by omega⟩)
  obtain ⟨m, rfl⟩ : ∃ m : Nat, h = (m : Int) := ⟨h.toNat, by omega⟩
  have m1 : 1 ≤ m := by omega
  have m5 : m ≤ 5 := by omega
  have mi : ¬ (m : Int) < 0 := by omega
  clear h1 h2 h3 h4
  have wp := wrap64_pow5 m m5
  obtain ⟨n, hn⟩ : ∃ n : Nat, 2 ^ m = n := ⟨_, rfl⟩
  have hn32 : n ≤ 32 := by rw [← hn]; exact pow5 m5
  have hn1 : 1 ≤ n := by rw [← hn]; exact Nat.one_le_two_pow
  have HNN := Lib.hid hn
  rw [hn] at wp
  clear hn
  by_cases h5 : z.length = n
  case neg =>
    have t3 : ((z.length : Int) != (n : Int)) = true := by simp; omega
    have t3n : (z.length != n) = true := by simp; omega
    have HN := Lib.hid (tell_false (p := RkOk m l z) (fun f => h5 (by rw [f.1.2.2, ← HNN.out]; simp)))
    clear h5
    go_enter Tryd.func101, Tryd.ntmps101
    go_wp2
    generalize w.alloc (.cells #[.int .i64 (m : Int), .int .i64 l, .slice a z.length c] 32) = w1 at *
    go_big_quiet (fail)
    go_wp2
    go_ret
    exact ⟨ret_bool HN.out.symm, chain HB.out (quiet_below ⟨_, rfl⟩)⟩
  have t3 : ((z.length : Int) != (n : Int)) = false := by simp; omega
  have t3n : (z.length != n) = false := by simp; omega
  have H5 := Lib.hid h5
  have hzl : z.length ≤ 32 := by omega
  have hz1 : 1 ≤ z.length := by omega
  have hzi : (0 : Int) < (z.length : Int) := by omega
  clear h5
  go_enter Tryd.func101, Tryd.ntmps101
  go_wp2
  generalize w.alloc (.cells #[.int .i64 (m : Int), .int .i64 l, .slice a z.length c] 32) = w1 at *
  obtain ⟨f, hf, hg⟩ := class_of w1
  have HS := Lib.hid hf
  have HM := Lib.hid hg
  have p0 : ∀ t, (f t).cell? ⟨w.heap.size, 0, none⟩ = some (.int .i64 (m : Int)) := fun t => cell_step (hf t) c0
  have p1 : ∀ t, (f t).cell? ⟨w.heap.size, 1, none⟩ = some (.int .i64 l) := fun t => cell_step (hf t) c1
  have p2 : ∀ t, (f t).cell? ⟨w.heap.size, 2, none⟩ = some (.slice a z.length c) := fun t => cell_step (hf t) c2
  clear hf hg c0 c1 c2
  refine region_class (fun w' => ∃ t, w' = f t) (by kernel_rfl) (by kernel_rfl) (HM.out _ (drew_step _)) ?_
  repeat (first | go_big_quiet_skip | (go_big_quiet_want; go_big_quiet_op; first | go_big_quiet_on | go_big_quiet_call (fail)))
  refine wpQuiet_nil ?_
  intro wq hwq
  obtain ⟨t, rfl⟩ := hwq
  have KF := Lib.hid (HS.out t)
  have c0 := p0 t
  have c1 := p1 t
  have c2 := p2 t
  clear p0 p1 p2
  generalize f t = w2 at *
  have HR2 := Lib.hid (HR.out.step KF.out)
  have hlt2 := KF.out.size
  have HB2 := Lib.hid (chain HB.out KF.out)
  clear KF HS HM wp d1 d2 d3 d4 t3 t3n
  rcases HR2.out with hh | ⟨b, o, rfl, hc⟩
  · rw [hh] at hz1; exact absurd hz1 (by decide)
  have g0 : w2.cell? ⟨b, o, none⟩ = some (.int .i64 (nth z 0)) := hc 0 (by omega)
  clear hc
  by_cases h6 : nth z 0 = 0
  case neg =>
    have t4 : (nth z 0 != 0) = true := by simp [h6]
    have HN := Lib.hid (tell_false (p := RkOk m l z) (fun f => h6 f.2.1))
    clear h6
    generalize nth z 0 = x0 at *
    go_wp2_with fail
    go_ret
    exact ⟨ret_bool HN.out.symm, HB2.out⟩
  have t4 : (nth z 0 != 0) = false := by simp [h6]
  have H6 := Lib.hid h6
  clear h6
  generalize hx0 : nth z 0 = x0 at g0 t4
  have HX0 := Lib.hid hx0
  clear hx0
  go_wp2_with fail
  refine (slicesMin_any (some ⟨b, o, none⟩) z c w2 HR2.out hln hz1).mono ?_
  rintro e w3 ⟨⟨v, rfl, hv⟩, rfl⟩
  have HV := Lib.hid hv
  clear hv
  by_cases hm : v < 0
  · have HN := Lib.hid (tell_false (p := RkOk m l z) (fun f => by have := (HV.out 0).2 (fun j hj => (f.2.2.1 j hj).1); omega))
    go_wp2_with fail
    go_ret
    exact ⟨ret_bool HN.out.symm, HB2.out⟩
  have HVN := Lib.hid (show 0 ≤ v by omega)
  go_wp2_with fail
  refine (slicesMax_any (some ⟨b, o, none⟩) z c w2 HR2.out hln hz1).mono ?_
  rintro e w3 ⟨⟨u, rfl, hu⟩, rfl⟩
  have HU := Lib.hid hu
  clear hu
  by_cases hm2 : 100000 < u
  · have HN := Lib.hid (tell_false (p := RkOk m l z) (fun f => by have := (HU.out 100000).2 (fun j hj => (f.2.2.1 j hj).2); omega))
    go_wp2_with fail
    go_ret
    exact ⟨ret_bool HN.out.symm, HB2.out⟩
  have HSM := Lib.hid (show SmallK z from fun j hj => ⟨(HV.out 0).1 HVN.out j hj, (HU.out 100000).1 (by omega) j hj⟩)
  have HRES := Lib.hid (show tell (RkOk m l z) = !(fltO z n) by
    unfold fltO
    rw [tell_not]
    refine tell_congr ⟨fun f k => k (by have := meets_iff.1 f.2.2.2; rw [H5.out] at this; exact this), fun f => ⟨⟨⟨by omega, by omega⟩, H34.out, by rw [H5.out, ← HNN.out]; simp⟩, H6.out, HSM.out, ?_⟩⟩
    rw [H5.out]
    exact meets_iff.2 (Classical.not_not.1 f))
  clear g0
  go_wp2_with fail
  clear hm hm2
  obtain ⟨f, hf, hg⟩ := class_of w2
  have HS := Lib.hid hf
  have HM := Lib.hid hg
  have p0 : ∀ t, (f t).cell? ⟨w.heap.size, 0, none⟩ = some (.int .i64 (m : Int)) := fun t => cell_step (hf t) c0
  have p1 : ∀ t, (f t).cell? ⟨w.heap.size, 1, none⟩ = some (.int .i64 l) := fun t => cell_step (hf t) c1
  have p2 : ∀ t, (f t).cell? ⟨w.heap.size, 2, none⟩ = some (.slice (some ⟨b, o, none⟩) z.length c) := fun t => cell_step (hf t) c2
  clear hf hg c0 c1 c2
  have HFF := Lib.hid (fun W => firstFault_val z m n W m5 HNN.out HSM.out.mild)
  generalize fltA z n = fa at *
  generalize fltB z n = fb at *
  generalize fltO z n = fo at *
  have HRL := Lib.hid (fun W (k : Ints W (some ⟨b, o, none⟩) z) => rankListOf_any (m : Int) l (some ⟨b, o, none⟩) z c W k hzl)
  generalize arr32 z = R at *
  refine region_class (fun w' => ∃ t, w' = f t) (by kernel_rfl) (by kernel_rfl) (HM.out _ (drew_step _)) ?_
  repeat (first | go_big_quiet_skip | (go_big_quiet_want; go_big_quiet_op; first | go_big_quiet_on | go_big_quiet_call (first | (go_at_call 139; refine (HRL.out _ (HR2.out.step (HS.out _))).mono ?_; rintro e wf ⟨rfl, hb⟩; exact ⟨rfl, HM.out _ (chain (HS.out _) hb)⟩) | (go_at_call 104; refine (HFF.out _).mono ?_; rintro e wf ⟨rfl, hb⟩; exact ⟨rfl, HM.out _ (chain (HS.out _) hb)⟩))))
  refine wpQuiet_nil ?_
  intro wq hwq
  obtain ⟨t, rfl⟩ := hwq
  have KF := Lib.hid (HS.out t)
  generalize f t = w3 at *
  go_wp2
  go_ret
  exact ⟨ret_bool HRES.out.symm, chain HB2.out KF.out⟩
end Go.Proofs.YthmjcmhaijiedaaDoor
