/- compareRows of the program. -/
import Derived.Test.YtgndekojodpmkaaDoorCmp
import Derived.Deep.RegionHeld3
namespace Go.Proofs.YtgndekojodpmkaaDoor
open Go.RowKit Go.Deep
set_option linter.unusedVariables false

theorem two_new (W : World) (g : Nat) (p q : Value) (t : TypeId) (hg : W.heap.size = g) : (W.alloc (.cells #[p, q] t)).cell? ⟨g, 0, none⟩ = some p ∧ (W.alloc (.cells #[p, q] t)).cell? ⟨g, 1, none⟩ = some q := by
  subst hg
  exact ⟨by rw [Boxes.cell (World.alloc_heap_new W _)]; rfl, by rw [Boxes.cell (World.alloc_heap_new W _)]; rfl⟩
set_option maxRecDepth 100000 in
set_option maxHeartbeats 1000000 in
theorem compareRows_any (s t : Int) (a b : Option Addr) (xs ys : List Int) (ca cb : Nat) (w : World) (ha : Ints w a xs) (hb : Ints w b ys) (hlx : xs.length ≤ 9223372036854775807) (hly : ys.length ≤ 9223372036854775807) :
    Calls Tryd.prog 76 #[.agg #[.int .i64 s, .slice a xs.length ca], .agg #[.int .i64 t, .slice b ys.length cb]] w fun e w' => e = .returned (.int .i64 (lexCmp (s :: xs) (t :: ys))) ∧ Below w.heap.size w w' := by
  have hb1 := ((Below.refl w.heap.size w).alloc (Nat.le_refl _) (.cells #[.int .i64 s, .slice a xs.length ca] 71)).alloc (by simp) (.cells #[.int .i64 t, .slice b ys.length cb] 71)
  have hx := Boxes.step (show Boxes (w.alloc (.cells #[.int .i64 s, .slice a xs.length ca] 71)) w.heap.size 71 #[.int .i64 s, .slice a xs.length ca] from World.alloc_heap_new w _) ((Below.refl _ _).alloc (Nat.le_refl _) (.cells #[.int .i64 t, .slice b ys.length cb] 71))
  have hy : Boxes ((w.alloc (.cells #[.int .i64 s, .slice a xs.length ca] 71)).alloc (.cells #[.int .i64 t, .slice b ys.length cb] 71)) (w.heap.size + 1) 71 #[.int .i64 t, .slice b ys.length cb] := by
    have : Boxes ((w.alloc (.cells #[.int .i64 s, .slice a xs.length ca] 71)).alloc (.cells #[.int .i64 t, .slice b ys.length cb] 71)) (w.alloc (.cells #[.int .i64 s, .slice a xs.length ca] 71)).heap.size 71 #[.int .i64 t, .slice b ys.length cb] := World.alloc_heap_new _ _
    simp only [World.size_alloc] at this
    exact this
  have HA := Lib.hid (ha.step hb1)
  have HB := Lib.hid (hb.step hb1)
  have HE := Lib.hid (lex_or s t xs ys)
  clear ha hb
  go_enter Tryd.func76, Tryd.ntmps76
  go_wp2_with fail
  generalize (w.alloc (.cells #[.int .i64 s, .slice a xs.length ca] 71)).alloc (.cells #[.int .i64 t, .slice b ys.length cb] 71) = w1 at *
  have HB1 := Lib.hid hb1
  have q0 := hx.c0
  have q1 := hx.c1
  have q2 := hy.c0
  have q3 := hy.c1
  have MK := Lib.hid (show ∀ w' : World, Below w1.heap.size w1 w' → Below w1.heap.size w1 w' ∧ w'.cell? ⟨w.heap.size, 0, none⟩ = some (.int .i64 s) ∧ w'.cell? ⟨w.heap.size, 1, none⟩ = some (.slice a xs.length ca) ∧ w'.cell? ⟨w.heap.size + 1, 0, none⟩ = some (.int .i64 t) ∧ w'.cell? ⟨w.heap.size + 1, 1, none⟩ = some (.slice b ys.length cb) from fun w' h => ⟨h, cell_step h q0, cell_step h q1, cell_step h q2, cell_step h q3⟩)
  clear hb1 hx hy
  go_region_held3 (fun w' => Below w1.heap.size w1 w' ∧ w'.cell? ⟨w.heap.size, 0, none⟩ = some (.int .i64 s) ∧ w'.cell? ⟨w.heap.size, 1, none⟩ = some (.slice a xs.length ca) ∧ w'.cell? ⟨w.heap.size + 1, 0, none⟩ = some (.int .i64 t) ∧ w'.cell? ⟨w.heap.size + 1, 1, none⟩ = some (.slice b ys.length cb)) (first | exact MK.out _ (drew_step _) | exact MK.out _ ((drew_step _).alloc (Nat.le_refl _) _) | exact MK.out _ ((‹Below w1.heap.size w1 _ ∧ _›).1.alloc (‹Below w1.heap.size w1 _ ∧ _›).1.size _) | exact ‹Below w1.heap.size w1 _ ∧ _› | fail) (first | (go_at_call 106; refine (cmpCompare_any s t _).mono ?_; rintro e w' ⟨rfl, rfl⟩) | (go_at_call 107; have KK := (‹Below w1.heap.size w1 _ ∧ _›).1; refine (slicesCompare_any a b xs ys ca cb _ (HA.out.step KK) (HB.out.step KK) hlx hly).mono ?_; clear KK; rintro e w' ⟨rfl, rfl⟩) | (go_at_call 105; (first | refine (cmpOr_any _ (cmpI s t) (lexCmp xs ys) _ _ (cell_step (drew_step _) (two_new _ _ _ _ _ rfl).1) (cell_step (drew_step _) (two_new _ _ _ _ _ rfl).2)).mono ?_ | refine (cmpOr_any _ (cmpI s t) (lexCmp xs ys) _ _ (two_new _ _ _ _ _ rfl).1 (two_new _ _ _ _ _ rfl).2).mono ?_); rintro e w' ⟨rfl, rfl⟩; rw [HE.out]))
  all_goals (
    have KF := (‹Below w1.heap.size w1 _ ∧ _›).1
    go_wp2
    go_ret
    exact ⟨rfl, chain HB1.out KF⟩)
end Go.Proofs.YtgndekojodpmkaaDoor
