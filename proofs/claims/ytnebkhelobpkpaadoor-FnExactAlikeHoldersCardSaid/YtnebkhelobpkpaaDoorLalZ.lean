/- 'laws.FnExactAlikeHolders': for all arguments the program's function gives what the model gives, and writes into nothing that it was given. Tied to the program's text: what the library's tables hold. No other condition. -/
import Derived.Test.YtnebkhelobpkpaaDoorRows
import Derived.JoinedOf
import Derived.SevenTiedAt
import Derived.Test.YtnebkhelobpkpaaDoorCards
import Derived.Test.YtnebkhelobpkpaaDoorRound
import Derived.BigQuiet
import Derived.Test.YtnebkhelobpkpaaDoorMark2
import Derived.Laws.OwnMore
import Derived.Test.YtnebkhelobpkpaaDoorCntI
import Derived.RangeFuncWrites
import Derived.Test.YtnebkhelobpkpaaDoorTbl
import Derived.Test.YtnebkhelobpkpaaDoorRen
import Derived.Test.YtnebkhelobpkpaaDoorGrpL
import Derived.Test.YtnebkhelobpkpaaDoorRenS
import Derived.Test.YtnebkhelobpkpaaDoorOk
import Derived.Deep.RegionHeld3
import Derived.Test.YtnebkhelobpkpaaDoorLawA
import Derived.Test.YtnebkhelobpkpaaDoorMk2f
import Derived.Deep.CutRange
import Derived.Test.YtnebkhelobpkpaaDoorOpen
import Derived.LaidHandle
import Derived.LaidLaws
import Derived.LaidMore
import Derived.Test.YtnebkhelobpkpaaDoorTie
namespace Go.Proofs.YtnebkhelobpkpaaDoor
namespace CardP
set_option maxRecDepth 1000000
set_option maxHeartbeats 100000000
theorem own : ownKnob Tryd.prog.godebug = none := by kernel_rfl
theorem laidOut : laidOutB Tryd.prog = true := by kernel_rfl
theorem rowed : mapsRowed Tryd.prog = true := by kernel_rfl
theorem heard : Tryd.prog.stopsHeard = true := by kernel_rfl
theorem enter : Tryd.prog.mayEnter = true := by kernel_rfl
theorem looks : true = Tryd.prog.looks [] := by kernel_rfl
end CardP
end Go.Proofs.YtnebkhelobpkpaaDoor

namespace Go.Proofs.YtnebkhelobpkpaaDoor
namespace Alike
set_option maxRecDepth 1000000 in
set_option maxHeartbeats 100000000 in
theorem closed : joinedFacts Tryd.pinned.checked.prog 3 Tryd.f3 Rows.fnExactAlikeHoldersSpec Rows.fnExactAlikeHoldersRow = true := by
  rw [joinedFacts]
  simp only [Bool.and_eq_true]
  repeat' apply And.intro
  · as_aux_lemma => kernel_rfl
  · exact CardP.laidOut
  · exact CardP.rowed
  · as_aux_lemma => kernel_rfl
  · as_aux_lemma => kernel_rfl
  · as_aux_lemma => kernel_rfl
  · as_aux_lemma => kernel_rfl
  · as_aux_lemma => kernel_rfl
  · as_aux_lemma => kernel_rfl
  · as_aux_lemma => kernel_rfl
  · as_aux_lemma => kernel_rfl
  · as_aux_lemma => kernel_rfl
  · as_aux_lemma => kernel_rfl
  · as_aux_lemma => kernel_rfl
  · as_aux_lemma => kernel_rfl
  · as_aux_lemma => kernel_rfl
  · as_aux_lemma => kernel_rfl
  · as_aux_lemma => kernel_rfl
  · as_aux_lemma => kernel_rfl
  · as_aux_lemma => kernel_rfl
  · as_aux_lemma => kernel_rfl
  · as_aux_lemma => kernel_rfl
  · as_aux_lemma => kernel_rfl
  · as_aux_lemma => kernel_rfl
  · exact CardP.heard
  · exact CardP.enter
  · as_aux_lemma => kernel_rfl
  · as_aux_lemma => kernel_rfl
  · as_aux_lemma => kernel_rfl
  · as_aux_lemma => kernel_rfl
  · as_aux_lemma => kernel_rfl
  · as_aux_lemma => kernel_rfl
end Alike
end Go.Proofs.YtnebkhelobpkpaaDoor

namespace Go.Proofs.YtnebkhelobpkpaaDoor
namespace Alike
set_option maxRecDepth 1000000
set_option maxHeartbeats 100000000
theorem c_named : Tryd.prog.funcNamed "loop.example/g01117/laws.FnExactAlikeHolders" = some 3 := by kernel_rfl
theorem c_stand : ([24].all fun u => !Tryd.prog.wantsStandIn u) = true := by kernel_rfl
theorem c_wf : Rows.fnExactAlikeHoldersRow.wfByText (OpenSpec.ofChange Rows.fnExactAlikeHoldersSpec) = true := by kernel_rfl
theorem c_main : Tryd.pinned.checked.prog.mainIs = some (true, "4bcf7a18e678c38f77a8b1dc478b0f5e0574699b41213499db88205322e9d75a".toList) := by kernel_rfl
theorem c_goes : false = Rows.fnExactAlikeHoldersRow.goesBy Tryd.pinned.checked.prog := by kernel_rfl
end Alike
end Go.Proofs.YtnebkhelobpkpaaDoor

namespace Go.Proofs.YtnebkhelobpkpaaDoor
open Go.RowKit Go.Deep Go.Shelf
set_option linter.unusedVariables false

theorem upon_wide {n : Nat} {P : Program} {o : Oper} {a : Act} {K : Act → World → Prop} {Q : Exit → Act → World → Prop} {r : Result Next} (h : o.upon P a K Q r) : o.uponIn Fence.wide n P a K Q r := by
  rcases r with ⟨x, w'⟩ | ⟨x, w'⟩
  · cases x
    case enter f args => exact ⟨(fun q => nomatch q), callsIn_wide.2 h⟩
    case row row args =>
      refine ⟨(fun q => nomatch q), fun c cs _ => ?_⟩
      obtain ⟨v, w2, r, s⟩ := h c cs
      exact ⟨v, w2, r, stepsIn_wide.2 s⟩
    all_goals first | exact h | exact False.elim h
  · cases x
    all_goals first | exact h | exact False.elim h
theorem wpOp_wide {n : Nat} {P : Program} {ops : Array Oper} {Q : Exit → Act → World → Prop} (hL : ¬ LetsOut Q) {i : Nat} {K K' : Act → World → Prop} (hK : ∀ a w, K a w → K' a w) {a : Act} {w : World}
    (h : wpOp P ops Q i K a w) : wpOpIn Fence.wide n P ops Q i K' a w := by
  unfold wpOp at h
  unfold wpOpIn
  cases ho : ops[i]? with
  | none => rw [ho] at h; exact hK _ _ h
  | some o =>
    rw [ho] at h
    dsimp only at h ⊢
    by_cases hw : Region.wanted o (yielded ops a.tmps) = true
    · rw [if_pos hw] at h ⊢
      rcases h with h | h
      · exact ⟨fun _ _ => trivial, upon_wide (Oper.wp_mono hK h)⟩
      · exact absurd h.2 hL
    · rw [if_neg hw] at h ⊢
      exact ⟨fun _ _ => trivial, hK _ _ h⟩
theorem wpAny_wide {n : Nat} {P : Program} {md : Region.Mode} {ops : Array Oper} {Q : Exit → Act → World → Prop} (hL : ¬ LetsOut Q) :
    ∀ (fuel : Nat) (listed : Array Bool) (a : Act) (w : World), wpAny P md ops Q fuel listed a w → wpAnyIn Fence.wide n P md ops Q fuel listed a w
  | 0, _, _, _, h => h
  | fuel + 1, _, _, _, ⟨h0, h1⟩ => ⟨h0, fun i hi => wpOp_wide hL (fun a w h => wpAny_wide hL fuel _ a w h) (h1 i hi)⟩
/-- One walk for all orders, in a round. -/
theorem wpIn_region_roundQ {P : Program} {n l id : Nat} {lst : List Oper} {Q : Exit → Act → World → Prop} {a : Act} {w : World} (C : World → Prop) (hm : P.follows .mixedOrders = true) (hd : noDefer lst.toArray = true) (hB : Region.lexB .any lst.toArray = true) (hC : C w.drew)
    (h : wpQuiet P lst.toArray C (fun a' => ∀ w', C w' → Q .normal a' w') lst a) : (Code.region id lst.toArray true).wpIn (Fence.wide.inRound l) n P Q a w := by
  have hL : ¬ LetsOut (fun (e : Exit) (a : Act) (w : World) => e = .normal ∧ Q .normal a w) := fun ⟨a, w, h, _⟩ => by cases h
  have h1 : wpAny P .any lst.toArray (fun e a w => e = .normal ∧ Q .normal a w) lst.toArray.size (Array.replicate lst.toArray.size false) a w.drew := by
    simp only [Region.lexB, Bool.and_eq_true] at hB
    refine wpAny_of_quiet (C := C) (Q := fun a' => ∀ w', C w' → Q .normal a' w') (fun _ w' hw' h => ⟨rfl, h w' hw'⟩) _ _ _ _ hC ?_
    have := wpAnyQ_lex (C := C) (md := .any) hB.1 lst.toArray.toList 0 (Array.replicate lst.toArray.size false) a (by simp) (by simpa using hB.2) (by simpa using h)
    simpa using this
  exact wpIn_mono (wpIn_region_round l rfl hd hm (wpAny_wide hL _ _ _ _ h1)) (fun e a w ⟨he, hq⟩ => by subst he; exact hq)
/-- The worlds behind a world, as the values of a function. -/
theorem class_ofR (w : World) : ∃ f : Option World → World, (∀ t, Below w.heap.size w (f t)) ∧ ∀ w', Below w.heap.size w w' → ∃ t, w' = f t := by
  classical
  refine ⟨fun t => match t with | some W => if Below w.heap.size w W then W else w | none => w, fun t => ?_, fun w' h => ⟨some w', by simp [h]⟩⟩
  cases t with
  | none => exact Below.refl _ _
  | some W => by_cases h : Below w.heap.size w W <;> simp [h]; exact Below.refl _ _
end Go.Proofs.YtnebkhelobpkpaaDoor

namespace Go.Proofs.YtnebkhelobpkpaaDoor
open Go.RowKit Go.Deep
set_option linter.unusedVariables false

theorem vals_atW (zs : List Int) {j : Nat} (h : j < zs.length) : (vals zs)[j]? = some (.int .i64 (nth zs j)) := by
  rw [nth_lt h]; simp [vals, h]
theorem vals_setW (zs : List Int) (j : Nat) (y : Int) : (vals zs).set j (.int .i64 y) = vals (zs.set j y) := by simp [vals, List.map_set]
def RowW (W : World) (base g n cap : Nat) (zs : List Int) : Prop := W.ownsRow base 2 1 (.slice (some ⟨g, 0, none⟩) n cap) n (vals zs) ∧ zs.length = n
theorem RowW.own {W : World} {base g n cap : Nat} {zs : List Int} (h : RowW W base g n cap zs) : OwnI W base (.slice (some ⟨g, 0, none⟩) n cap) zs := by
  unfold OwnI; rw [h.2]; exact h.1
theorem RowW.of {W : World} {base g n cap : Nat} {zs : List Int} (h : OwnI W base (.slice (some ⟨g, 0, none⟩) n cap) zs) (hn : zs.length = n) : RowW W base g n cap zs := ⟨by
  unfold OwnI at h; rw [hn] at h; exact h, hn⟩
theorem RowW.cell {W : World} {base g n cap : Nat} {zs : List Int} (h : RowW W base g n cap zs) {j : Nat} (hj : j < n) : W.cell? ⟨g, j, none⟩ = some (.int .i64 (nth zs j)) := by
  rw [World.ownsRow.cellAt h.1 j (by omega), vals_atW _ (by rw [h.2]; exact hj)]
theorem RowW.fz {W : World} {base g n cap : Nat} {zs : List Int} (h : RowW W base g n cap zs) (j : Nat) : W.frozen? ⟨g, j, none⟩ = false := World.ownsRow.frozenAt h.1 j
theorem RowW.gl {W : World} {base g n cap : Nat} {zs : List Int} (h : RowW W base g n cap zs) : base ≤ g ∧ g < W.heap.size := World.ownsRow.lt h.1 g rfl
theorem RowW.put {W : World} {base g n cap : Nat} {zs : List Int} (h : RowW W base g n cap zs) (j : Nat) (v : Int) : RowW (W.setCell ⟨g, j, none⟩ (.int .i64 v)) base g n cap (zs.set j v) := by
  obtain ⟨h1, h2⟩ := World.ownsRow.stored h.1 j (.int .i64 v)
  rw [vals_setW] at h1
  exact ⟨h1, by simp [h.2]⟩
theorem RowW.step {W W' : World} {base g n cap : Nat} {zs : List Int} (h : RowW W base g n cap zs) (hb : Below W.heap.size W W') : RowW W' base g n cap zs := .of (OwnI.step h.own hb) h.2
theorem made_rowW (w : World) (m : Nat) (hm : m ≤ 7) : RowW (w.alloc (.cells (madeCells #[.int .i64 0] m) 2)) w.heap.size w.heap.size m m (List.replicate m 0) := by
  have h0 := World.rowIs_made w (.int .i64 0) m 2
  have hl : (List.replicate m (0 : Int)).length = m := List.length_replicate
  have h1 : (w.alloc (.cells (madeCells #[.int .i64 0] m) 2)).rowIs w.heap.size 2 (List.replicate m (0 : Int)).length (fun i => .int .i64 (nth (List.replicate m (0 : Int)) i)) := by
    rw [hl]
    obtain ⟨c, h1, h2, h3⟩ := h0
    exact ⟨c, h1, h2, fun i hi => by
      rw [h3 i hi]
      show some (Value.int .i64 0) = some (.int .i64 (nth (List.replicate m (0 : Int)) i))
      rw [nth_lt (by rw [hl]; exact hi)]; simp⟩
  have h2 := own_of_row h1 (by rw [hl]; unfold maxLen; omega)
  have h3 := RowW.of (n := (List.replicate m (0 : Int)).length) h2 rfl
  rw [hl] at h3
  exact h3
end Go.Proofs.YtnebkhelobpkpaaDoor

namespace Go.Proofs.YtnebkhelobpkpaaDoor
open Go.RowKit Go.Deep Go.Shelf
set_option linter.unusedVariables false
attribute [local go_sem] Oper.semAt_some

/-- A group in which two holders have changed places. -/
def swpN (i j g : Nat) : Nat := if g.testBit i = g.testBit j then g else g ^^^ (2 ^ i ||| 2 ^ j)
theorem swpN_lt : ∀ g : Nat, g < 128 → ∀ i : Nat, i < 7 → ∀ j : Nat, j < 7 → swpN i j g < 128 := by decide +kernel
theorem xor_fact : ∀ x : Nat, x < 128 → ∀ i : Nat, i < 7 → ∀ j : Nat, j < 7 → bits BinOp.xor IntKind.u64 (x : Int) (bits BinOp.or IntKind.u64 (IntKind.u64.wrap (2 ^ i)) (IntKind.u64.wrap (2 ^ j))) = (x ^^^ (2 ^ i ||| 2 ^ j) : Nat) := by decide +kernel
set_option maxRecDepth 100000 in
theorem swapped_any (g i j : Nat) (w : World) (hg : g < 128) (hi : i < 7) (hj : j < 7) :
    Calls Tryd.prog 83 #[.int .u64 g, .int .i64 (i : Nat), .int .i64 (j : Nat)] w fun e w' => e = .returned (.int .u64 (swpN i j g : Nat)) ∧ Quiet w w' := by
  have hi0 : (0 : Int) ≤ (i : Int) := by omega
  have hj0 : (0 : Int) ≤ (j : Int) := by omega
  have HX := Lib.hid (xor_fact g hg i hi j hj)
  by_cases hb : g.testBit i = g.testBit j
  · have HV := Lib.hid (show swpN i j g = g by unfold swpN; rw [if_pos hb])
    have hbb : (g.testBit i == g.testBit j) = true := by rw [hb]; simp
    have HBB := Lib.hid hb
    clear hb
    go_enter Tryd.func83, Tryd.ntmps83
    go_wp2_with fail
    refine (has_any g (i : Int) w hg (by omega) (by omega)).mono ?_
    rintro e w' ⟨rfl, rfl⟩
    rw [Int.toNat_natCast, HBB.out]
    go_wp2_with fail
    refine (has_any g (j : Int) w hg (by omega) (by omega)).mono ?_
    rintro e w' ⟨rfl, rfl⟩
    rw [Int.toNat_natCast]
    go_wp2_with fail
    go_ret
    exact ⟨by rw [HV.out]; rfl, Quiet.refl _⟩
  · have HV := Lib.hid (show swpN i j g = g ^^^ (2 ^ i ||| 2 ^ j) by unfold swpN; rw [if_neg hb])
    have hbb : (g.testBit i == g.testBit j) = false := by simp [hb]
    clear hb
    go_enter Tryd.func83, Tryd.ntmps83
    go_wp2_with fail
    refine (has_any g (i : Int) w hg (by omega) (by omega)).mono ?_
    rintro e w' ⟨rfl, rfl⟩
    rw [Int.toNat_natCast]
    go_wp2_with fail
    refine (has_any g (j : Int) w hg (by omega) (by omega)).mono ?_
    rintro e w' ⟨rfl, rfl⟩
    rw [Int.toNat_natCast]
    go_wp2_with fail
    go_quiet (fail)
    go_wp2_with fail
    go_ret
    refine ⟨?_, ⟨_, rfl⟩⟩
    rw [HV.out, ← HX.out]; rfl

def alikeB (q : Nat → Bool) (m i j : Nat) : Bool := (lexAll m).all fun g => q g.val == q (swpN i j g.val)
/-- What lies where groups are swapped. -/
structure AlI (w : World) (T m i j : Nat) (q : Nat → Bool) (r : Bool) (W : World) : Prop where
  bel : Below w.heap.size w W
  sz : w.heap.size + 5 ≤ W.heap.size
  b3 : W.cell? ⟨w.heap.size, 0, none⟩ = some (.pointer (some ⟨T, 0, none⟩))
  b4 : W.cell? ⟨w.heap.size + 1, 0, none⟩ = some (.int .i64 (i : Nat))
  b5 : W.cell? ⟨w.heap.size + 1 + 1, 0, none⟩ = some (.int .i64 (j : Nat))
  b6 : W.cell? ⟨w.heap.size + 1 + 1 + 1, 0, none⟩ = some (.bool r)
  f6 : W.frozen? ⟨w.heap.size + 1 + 1 + 1, 0, none⟩ = false
  tab : TableAt W T m q
theorem AlI.own1 {w W W' : World} {T m i j : Nat} {q : Nat → Bool} {r : Bool} {B : Nat} {row : Option Nat} (hB : w.heap.size ≤ B) (hs : AlI w T m i j q r W) (hg : W.grownBy W' row) (hr : ∀ r, row = some r → B ≤ r ∧ ∃ o : Obj, W.heap[r]? = some o ∧ o.isCells = false) : AlI w T m i j q r W' := by
  have hr' : ∀ r, row = some r → ∃ o : Obj, W.heap[r]? = some o ∧ o.isCells = false := fun r e => (hr r e).2
  exact ⟨hs.bel.grown hg hs.bel.size (fun k hk => by have := (hr k hk).1; omega), Nat.le_trans hs.sz hg.size, cell_kept hs.b3 hg hr', cell_kept hs.b4 hg hr', cell_kept hs.b5 hg hr', cell_kept hs.b6 hg hr', (frozen_kept hs.b6 hg hr').trans hs.f6, hs.tab.kept hg hr'⟩
theorem AlI.step {w W W' : World} {T m i j : Nat} {q : Nat → Bool} {r : Bool} (hs : AlI w T m i j q r W) (hb : Below W.heap.size W W') : AlI w T m i j q r W' :=
  ⟨hs.bel.trans (hb.mono hs.bel.size), Nat.le_trans hs.sz hb.size, cell_step hb hs.b3, cell_step hb hs.b4, cell_step hb hs.b5, cell_step hb hs.b6, (hb.frozen (p := ⟨w.heap.size + 1 + 1 + 1, 0, none⟩) (World.block_lt_of_cell? _ _ hs.b6)).trans hs.f6, hs.tab.step hb⟩
theorem AlI.put {w W : World} {T m i j : Nat} {q : Nat → Bool} {r : Bool} (hs : AlI w T m i j q r W) (hT : T < w.heap.size) (v : Bool) : AlI w T m i j q v (W.setCell ⟨w.heap.size + 1 + 1 + 1, 0, none⟩ (.bool v)) := by
  have hT' : T ≠ w.heap.size + 1 + 1 + 1 := by omega
  refine ⟨hs.bel.setCell (by simp <;> omega) _, by simpa [World.setCell] using hs.sz, ?_, ?_, ?_, ?_, ?_, ⟨?_, fun y hy => ?_, fun o => ?_⟩⟩
  · rw [World.cell?_setCell_other _ _ _ _ (by simp <;> omega)]; exact hs.b3
  · rw [World.cell?_setCell_other _ _ _ _ (by simp <;> omega)]; exact hs.b4
  · rw [World.cell?_setCell_other _ _ _ _ (by simp <;> omega)]; exact hs.b5
  · exact World.cell?_setCell_same' _ _ _ (by rw [hs.b6]; rfl)
  · rw [World.frozen?_setCell]; exact hs.f6
  · rw [World.cell?_setCell_other _ _ _ _ (by simp <;> omega)]; exact hs.tab.h0
  · rw [World.cell?_setCell_other _ _ _ _ (by simp <;> omega)]; exact hs.tab.cell y hy
  · rw [World.frozen?_setCell]; exact hs.tab.free o

set_option maxRecDepth 100000 in
set_option maxHeartbeats 2000000 in
theorem areAlike_any (T m i j : Nat) (q : Nat → Bool) (w : World) (ht : TableAt w T m q) (h7 : m ≤ 7) (hi : i < 7) (hj : j < 7) :
    Calls Tryd.prog 39 #[.pointer (some ⟨T, 0, none⟩), .int .i64 (i : Nat), .int .i64 (j : Nat)] w fun e w' => e = .returned (.bool (alikeB q m i j)) ∧ Below w.heap.size w w' := by
  have hT : T < w.heap.size := World.block_lt_of_cell? _ _ ht.h0
  have h0 := ht.h0
  have HT := Lib.hid ht
  clear ht
  have hT1 : T < w.heap.size + 1 := by omega
  have hT2 : T < w.heap.size + 1 + 1 := by omega
  have hT3 : T < w.heap.size + 1 + 1 + 1 := by omega
  have n0 : ¬ T = w.heap.size := by omega
  have n1 : ¬ T = w.heap.size + 1 := by omega
  have n2 : ¬ T = w.heap.size + 1 + 1 := by omega
  have n3 : ¬ T = w.heap.size + 1 + 1 + 1 := by omega
  refine (callsIn_wide (n := 9)).1 ?_
  have hdd : ∀ k : Nat, (Fence.wide.depth.isSome = true → 1 ≤ k) := fun k h => by cases h
  refine callsIn_of_wp_marks Tryd.func39 rfl trivial ?_ rfl
  simp only [Tryd.ntmps39, List.size_toArray, List.length_cons, List.length_nil, Nat.reduceAdd, Nat.reduceSub, Array.replicate_succ, Array.replicate_zero, List.push_toArray, List.append_toArray, List.nil_append, List.cons_append]
  gi_wp2_with (refine ⟨trivial, ?_⟩; gi_at_call 81; refine (callsIn_wide.2 (groupsOf_any _ _)).mono ?_; rintro e w' ⟨rfl, rfl⟩)
  have hb5 : Below w.heap.size w (((((w.alloc (.cells #[.pointer (some ⟨T, 0, none⟩)] 71)).alloc (.cells #[.int .i64 (i : Nat)] 2)).alloc (.cells #[.int .i64 (j : Nat)] 2)).alloc (.cells #[.bool false] 4)).alloc (.cells #[.int .i64 (m : Nat)] 2)) := (((((Below.refl w.heap.size w).alloc (Nat.le_refl _) (.cells #[.pointer (some ⟨T, 0, none⟩)] 71)).alloc (by simp <;> omega) (.cells #[.int .i64 (i : Nat)] 2)).alloc (by simp <;> omega) (.cells #[.int .i64 (j : Nat)] 2)).alloc (by simp <;> omega) (.cells #[.bool false] 4)).alloc (by simp <;> omega) (.cells #[.int .i64 (m : Nat)] 2)
  have hinv0 : AlI w T m i j q false (((((w.alloc (.cells #[.pointer (some ⟨T, 0, none⟩)] 71)).alloc (.cells #[.int .i64 (i : Nat)] 2)).alloc (.cells #[.int .i64 (j : Nat)] 2)).alloc (.cells #[.bool false] 4)).alloc (.cells #[.int .i64 (m : Nat)] 2)) := ⟨hb5, by simp, by simp [go_sem], by simp [go_sem], by simp [go_sem], by simp [go_sem], by simp [go_sem], HT.out.step hb5⟩
  have hbox : (((((w.alloc (.cells #[.pointer (some ⟨T, 0, none⟩)] 71)).alloc (.cells #[.int .i64 (i : Nat)] 2)).alloc (.cells #[.int .i64 (j : Nat)] 2)).alloc (.cells #[.bool false] 4)).alloc (.cells #[.int .i64 (m : Nat)] 2)).cell? ⟨w.heap.size + 1 + 1 + 1 + 1, 0, none⟩ = some (.int .i64 (m : Nat)) := by simp [go_sem]
  have hsz : (((((w.alloc (.cells #[.pointer (some ⟨T, 0, none⟩)] 71)).alloc (.cells #[.int .i64 (i : Nat)] 2)).alloc (.cells #[.int .i64 (j : Nat)] 2)).alloc (.cells #[.bool false] 4)).alloc (.cells #[.int .i64 (m : Nat)] 2)).heap.size = w.heap.size + 5 := by simp
  clear hb5 h0 hT1 hT2 hT3 n0 n1 n2 n3
  generalize ((((w.alloc (.cells #[.pointer (some ⟨T, 0, none⟩)] 71)).alloc (.cells #[.int .i64 (i : Nat)] 2)).alloc (.cells #[.int .i64 (j : Nat)] 2)).alloc (.cells #[.bool false] 4)).alloc (.cells #[.int .i64 (m : Nat)] 2) = w0 at *
  have HI0 := Lib.hid hinv0
  have hmx : Tryd.prog.follows .mixedOrders = true := by kernel_rfl
  clear hinv0
  refine wpIn_rangeFunc_ownG rfl (by decide) (gf := 126) (lb := #[.pointer (some ⟨w.heap.size + 1 + 1 + 1 + 1, 0, none⟩)]) rfl trivial (enters_of Tryd.func126 (by kernel_rfl) rfl)
    (groups_stops 8 m (w.heap.size + 1 + 1 + 1 + 1) w0 h7 (by omega) hbox) (fun _ _ => trivial) (fun _ _ _ _ _ _ _ _ => trivial) (Below.refl _ _) (fun _ => rfl)
    (fun pre W => AlI w T m i j q false W ∧ ∀ g ∈ pre, q g.val = q (swpN i j g.val))
    (fun c pre W => c = .ret ∧ (∃ g ∈ pre, ¬ q g.val = q (swpN i j g.val)) ∧ AlI w T m i j q false W)
    (fun s W W' row hs hg hr => ⟨AlI.own1 (by omega) hs.1 hg hr, hs.2⟩)
    (fun c s W W' row hs hg hr => ⟨hs.1, hs.2.1, AlI.own1 (by omega) hs.2.2 hg hr⟩)
    ⟨HI0.out, by simp⟩
    (fun x => { tmps := #[.pointer (some ⟨T, 0, none⟩), .int .i64 (i : Nat), .int .i64 (j : Nat), .pointer (some ⟨w.heap.size, 0, none⟩), .pointer (some ⟨w.heap.size + 1, 0, none⟩), .pointer (some ⟨w.heap.size + 1 + 1, 0, none⟩), .pointer (some ⟨w.heap.size + 1 + 1 + 1, 0, none⟩), .int .u64 (x.val : Int), .pointer (some ⟨T, 0, none⟩), .pointer (some ⟨T, 0, none⟩), .pointer (some ⟨T, 0, none⟩), .int .i64 (m : Nat), .func (.func 126) #[] #[.pointer (some ⟨w.heap.size + 1 + 1 + 1 + 1, 0, none⟩)], .int .u64 (x.val : Int), undef, undef, undef, undef, undef, undef, undef, undef, undef, undef], defers := [] }) ?assign ?body ?done ?stop
  case assign =>
    intro l x W K hK
    dsimp only [encG]
    gi_wp2
    exact hK
  case body =>
    intro l pre x W hI hlt
    have hx := x.isLt
    have HI := Lib.hid hI.1
    have HAL := Lib.hid hI.2
    have b3 := hI.1.b3
    have b4 := hI.1.b4
    have b5 := hI.1.b5
    have hI9 := hI.1
    have HSL := Lib.hid (swpN_lt x.val hx i hi j hj)
    obtain ⟨y, hy⟩ : ∃ y, swpN i j x.val = y := ⟨_, rfl⟩
    rw [hy] at HSL
    have HY := Lib.hid hy
    obtain ⟨u, hu⟩ : ∃ u, q x.val = u := ⟨_, rfl⟩
    obtain ⟨v, hv⟩ : ∃ v, q y = v := ⟨_, rfl⟩
    have HU := Lib.hid hu
    have HV := Lib.hid hv
    clear hI hbox hsz hlt hy hu hv
    obtain ⟨f, hf, hg⟩ := class_ofR W
    have HS := Lib.hid hf
    have HM := Lib.hid hg
    have p3 : ∀ t, (f t).cell? ⟨w.heap.size, 0, none⟩ = some (.pointer (some ⟨T, 0, none⟩)) := fun t => cell_step (hf t) b3
    have p4 : ∀ t, (f t).cell? ⟨w.heap.size + 1, 0, none⟩ = some (.int .i64 (i : Nat)) := fun t => cell_step (hf t) b4
    have p5 : ∀ t, (f t).cell? ⟨w.heap.size + 1 + 1, 0, none⟩ = some (.int .i64 (j : Nat)) := fun t => cell_step (hf t) b5
    have HTT := Lib.hid (show ∀ t, TableAt (f t) T m q from fun t => hI9.tab.step (hf t))
    have HOX := Lib.hid (show ∀ t, Calls Tryd.prog 82 #[.pointer (some ⟨T, 0, none⟩), .int .u64 (x.val : Int)] (f t) fun e w' => e = .returned (.bool u) ∧ f t = w' from fun t => by
      have h := opens_any T m x.val q (f t) hx (HTT.out t)
      rw [HU.out] at h
      exact h)
    have HOY := Lib.hid (show ∀ t, Calls Tryd.prog 82 #[.pointer (some ⟨T, 0, none⟩), .int .u64 (y : Int)] (f t) fun e w' => e = .returned (.bool v) ∧ f t = w' from fun t => by
      have h := opens_any T m y q (f t) HSL.out (HTT.out t)
      rw [HV.out] at h
      exact h)
    have HSX := Lib.hid (show ∀ t, Calls Tryd.prog 83 #[.int .u64 (x.val : Int), .int .i64 (i : Nat), .int .i64 (j : Nat)] (f t) fun e w' => e = .returned (.int .u64 (y : Int)) ∧ Quiet (f t) w' from fun t => by
      have h := swapped_any x.val i j (f t) hx hi hj
      rw [HY.out] at h
      exact h)
    clear hf hg b3 b4 b5 hI9
    generalize hxv : x.val = xv at *
    have HXV := Lib.hid hxv
    clear hxv
    gi_wp2_with fail
    refine wpIn_region_roundQ (fun w' => ∃ t, w' = f t) hmx (by kernel_rfl) (by kernel_rfl) (HM.out _ (drew_step _)) ?_
    repeat (first | go_big_quiet_skip | (go_big_quiet_want; go_big_quiet_op; first | go_big_quiet_on | go_big_quiet_call (first
      | (go_at_call 83; with_reducible refine Calls.mono (HSX.out _) ?_; rintro e w8 ⟨rfl, hq8⟩; exact ⟨rfl, HM.out _ (chain (HS.out _) (quiet_below hq8))⟩)
      | (go_at_call 82; with_reducible refine Calls.mono (HOX.out _) ?_; rintro e w8 ⟨rfl, rfl⟩; exact ⟨rfl, _, rfl⟩)
      | (go_at_call 82; with_reducible refine Calls.mono (HOY.out _) ?_; rintro e w8 ⟨rfl, rfl⟩; exact ⟨rfl, _, rfl⟩))))
    refine wpQuiet_nil ?_
    intro wq hwq
    obtain ⟨t, rfl⟩ := hwq
    have HB8 := Lib.hid (HS.out t)
    have HI8 := Lib.hid (HI.out.step (HS.out t))
    have z6 := HI8.out.b6
    have y6 := HI8.out.f6
    have hl6 := World.block_lt_of_cell? _ _ z6
    clear p3 p4 p5
    generalize f t = wq at *
    cases u <;> cases v
    all_goals gi_wp2_with fail
    · exact ⟨(keepsBelow HB8.out).from _, trivial, HI8.out, fun g hg => by
        rcases List.mem_append.1 hg with h | h
        · exact HAL.out g h
        · simp at h; subst h; rw [HXV.out, HY.out, HU.out, HV.out]⟩
    · exact ⟨((keepsBelow HB8.out).trans (KeepsOthers.setCell _ _ _)).from _, rfl, ⟨x, by simp, by rw [HXV.out, HY.out, HU.out, HV.out]; decide⟩, HI8.out.put hT false⟩
    · exact ⟨((keepsBelow HB8.out).trans (KeepsOthers.setCell _ _ _)).from _, rfl, ⟨x, by simp, by rw [HXV.out, HY.out, HU.out, HV.out]; decide⟩, HI8.out.put hT false⟩
    · exact ⟨(keepsBelow HB8.out).from _, trivial, HI8.out, fun g hg => by
        rcases List.mem_append.1 hg with h | h
        · exact HAL.out g h
        · simp at h; subst h; rw [HXV.out, HY.out, HU.out, HV.out]⟩
  case done =>
    rintro D ys W hD rfl ⟨hI, hall⟩ hK
    have b6 := hI.b6
    have f6 := hI.f6
    have hl6 := World.block_lt_of_cell? _ _ b6
    have HI := Lib.hid hI
    have HK := Lib.hid hK
    have HV := Lib.hid (show alikeB q m i j = true by unfold alikeB; rw [List.all_eq_true]; intro g hg; rw [hall g hg]; simp)
    clear hI hK hbox hall
    gi_wp2_with fail
    have k3 : (W.setCell ⟨w.heap.size + 1 + 1 + 1, 0, none⟩ (.bool true)).heap[D]? = some (.deferred (some [])) := (Below.heap_setCell _ _ _ _ (by show D ≠ w.heap.size + 1 + 1 + 1; omega)).trans HK.out
    have hip := HI.out.put hT true
    have d0 := cell_kept hip.b6 (grownBy_putObj' _ D (.deferred none)) (fun r e => by cases e; exact ⟨_, k3, rfl⟩)
    have hbe := hip.bel.grown (grownBy_putObj' _ D (.deferred none)) hip.bel.size (fun k e => by cases e; omega)
    refine ⟨by simp, .inl ⟨_, _, rfl, run_takeDeferred k3, ?_⟩⟩
    refine ⟨.bool true, ?_, ?_⟩
    · simp only [results]
      go_simp
    · exact ⟨by rw [HV.out], hbe⟩
  case stop =>
    rintro D c pre W hD hpre ⟨rfl, ⟨g, hg, hne⟩, hI⟩ hK
    have HV := Lib.hid (show alikeB q m i j = false by
      cases h : alikeB q m i j with
      | false => rfl
      | true =>
        unfold alikeB at h
        rw [List.all_eq_true] at h
        exact absurd (by simpa using h g (hpre.subset hg)) hne)
    have d0 := cell_kept hI.b6 (grownBy_putObj' _ D (.deferred none)) (fun r e => by cases e; exact ⟨_, hK, rfl⟩)
    have hbe := hI.bel.grown (grownBy_putObj' _ D (.deferred none)) hI.bel.size (fun k e => by cases e; omega)
    clear hbox hne hg hpre
    gi_wp2_with fail
    refine ⟨by simp, .inl ⟨_, _, rfl, run_takeDeferred hK, ?_⟩⟩
    refine ⟨.bool false, ?_, ?_⟩
    · simp only [results]
      go_simp
    · exact ⟨by rw [HV.out], hbe⟩
end Go.Proofs.YtnebkhelobpkpaaDoor

namespace Go.Proofs.YtnebkhelobpkpaaDoor
open Go.RowKit Go.Deep Go.Shelf
set_option linter.unusedVariables false

/-- The first holder that h is like, or h. -/
def firstTo (p : Nat → Bool) (h : Nat) : Nat → Nat
  | 0 => h
  | d + 1 => if p (h - (d + 1)) = true then h - (d + 1) else firstTo p h d
/-- The first k below h with p, or h. -/
def firstOf (p : Nat → Bool) (h : Nat) : Nat := firstTo p h h
theorem firstTo_is {p : Nat → Bool} {h : Nat} : ∀ d k, k ≤ h → h - k ≤ d → d ≤ h → (∀ l, h - d ≤ l → l < k → p l = false) → (k = h ∨ p k = true) → firstTo p h d = k
  | 0, k, hk, hd, _, _, _ => by simp [firstTo]; omega
  | d + 1, k, hk, hd, hdh, hl, hp => by
    unfold firstTo
    by_cases e : h - (d + 1) = k
    · rw [e]
      rcases hp with q | q
      · omega
      · rw [if_pos q]
    · rw [if_neg (by rw [hl _ (Nat.le_refl _) (by omega)]; simp)]
      exact firstTo_is d k hk (by omega) (by omega) (fun l h1 h2 => hl l (by omega) h2) hp
theorem firstOf_is {p : Nat → Bool} {h k : Nat} (hk : k ≤ h) (hl : ∀ l, l < k → p l = false) (hp : k = h ∨ p k = true) : firstOf p h = k :=
  firstTo_is h k hk (by omega) (Nat.le_refl _) (fun l _ h2 => hl l h2) hp
/-- The numbers of the first k holders, and the next number. -/
def alN (q : Nat → Bool) (m : Nat) : Nat → List Int × Nat
  | 0 => ([], 0)
  | h + 1 => if firstOf (fun l => alikeB q m l h) h < h then ((alN q m h).1 ++ [nth (alN q m h).1 (firstOf (fun l => alikeB q m l h) h)], (alN q m h).2) else ((alN q m h).1 ++ [((alN q m h).2 : Int)], (alN q m h).2 + 1)
theorem alN_len (q : Nat → Bool) (m : Nat) : ∀ h, (alN q m h).1.length = h
  | 0 => rfl
  | h + 1 => by
    unfold alN
    split <;> simp [alN_len q m h]
theorem alN_le (q : Nat → Bool) (m : Nat) : ∀ h, (alN q m h).2 ≤ h
  | 0 => Nat.le_refl _
  | h + 1 => by
    have := alN_le q m h
    unfold alN
    split
    · show (alN q m h).2 ≤ h + 1; omega
    · show (alN q m h).2 + 1 ≤ h + 1; omega
theorem alN_old {q : Nat → Bool} {m h k : Nat} (hk : k < h) (e : firstOf (fun l => alikeB q m l h) h = k) : alN q m (h + 1) = ((alN q m h).1 ++ [nth (alN q m h).1 k], (alN q m h).2) := by
  rw [alN, e, if_pos hk]
theorem alN_new {q : Nat → Bool} {m h : Nat} (e : firstOf (fun l => alikeB q m l h) h = h) : alN q m (h + 1) = ((alN q m h).1 ++ [((alN q m h).2 : Int)], (alN q m h).2 + 1) := by
  rw [alN, e, if_neg (Nat.lt_irrefl _)]
noncomputable def alOf (h : Int) (zss : List (List Int)) : List Int := if tell (FamOk h zss) = true then (alN (tabOf h zss) h.toNat h.toNat).1 else []
/-- Half done: the first numbers, then zeros. -/
def alMid (l : List Int) (m : Nat) : List Int := l ++ List.replicate (m - l.length) 0
theorem alMid_at {l : List Int} {m k : Nat} (hk : k < l.length) : nth (alMid l m) k = nth l k := by
  unfold alMid
  rw [nth_lt (by simp; omega), List.getElem_append_left hk, nth_lt hk]
theorem alMid_set {l : List Int} {m : Nat} (hl : l.length < m) (v : Int) : (alMid l m).set l.length v = alMid (l ++ [v]) m := by
  unfold alMid
  rw [List.set_append_right _ _ (Nat.le_refl _), Nat.sub_self, show m - l.length = (m - (l ++ [v]).length) + 1 by simp; omega, List.replicate_succ, List.set_cons_zero, List.append_assoc]
  rfl
theorem alMid_all {l : List Int} {m : Nat} (h : l.length = m) : alMid l m = l := by unfold alMid; rw [h, Nat.sub_self]; simp
set_option maxRecDepth 100000 in
set_option maxHeartbeats 4000000 in
theorem implAl_any (h : Int) (a : Option Addr) (zss : List (List Int)) (c : Nat) (w : World) (hr : Rows2 w a zss) (hl : Small2 zss) :
    Calls Tryd.prog 11 #[.agg #[.int .i64 h, .slice a zss.length c]] w (GivesIntsCode w (alOf h zss) (okCode h zss)) := by
  have hb1 := (Below.refl w.heap.size w).alloc (Nat.le_refl _) (.cells #[.int .i64 h, .slice a zss.length c] 29)
  have c0 : (w.alloc (.cells #[.int .i64 h, .slice a zss.length c] 29)).cell? ⟨w.heap.size, 0, none⟩ = some (.int .i64 h) := by simp
  have hlt0 : w.heap.size < (w.alloc (.cells #[.int .i64 h, .slice a zss.length c] 29)).heap.size := by simp
  have HR := Lib.hid (hr.step hb1)
  have HL := Lib.hid hl
  have HB := Lib.hid hb1
  clear hr hl hb1
  by_cases hf : FamOk h zss
  · have HFO := Lib.hid hf
    have hh1 : 1 ≤ h := hf.1.1
    have hh7 : h ≤ 7 := hf.1.2
    have HV := Lib.hid (show alOf h zss = (alN (tabOf h zss) h.toNat h.toNat).1 by rw [alOf, if_pos (tell_true hf)])
    have HCO := Lib.hid (show okCode h zss = 0 by rw [okCode, if_pos (tell_true hf)])
    clear hf
    obtain ⟨m, rfl⟩ : ∃ m : Nat, h = (m : Int) := ⟨h.toNat, by omega⟩
    rw [Int.toNat_natCast] at HV
    have m7 : m ≤ 7 := by omega
    have m1 : 1 ≤ m := by omega
    have hmk := run_make_row' (P := Tryd.prog) 26 2 (.int .i64 0) 8 Tryd.underlying26 Tryd.infoInt64 rfl .i64 .i64 m (by omega) (by omega)
    go_enter Tryd.func11, Tryd.ntmps11
    go_wp2_with fail
    refine (tableOf_any (m : Int) a zss c _ HR.out HL.out).mono ?_
    generalize w.alloc (.cells #[.int .i64 (m : Int), .slice a zss.length c] 29) = w1 at *
    rintro e w2 ⟨hy, -, hb⟩
    obtain ⟨T, rfl, hT, htab⟩ := hy HFO.out
    rw [Int.toNat_natCast] at htab
    have HTA := Lib.hid htab
    have HB2 := Lib.hid (chain HB.out hb)
    have p0 := (hb.cell (p := ⟨w.heap.size, 0, none⟩) hlt0).trans c0
    have hl2 : w.heap.size < w2.heap.size := Nat.lt_of_lt_of_le hlt0 hb.size
    clear htab hy hb c0
    generalize tabOf (m : Int) zss = q at *
    have HMK := Lib.hid (made_rowW w2 m m7)
    have hba := (Below.refl w2.heap.size w2).alloc (Nat.le_refl _) (.cells (madeCells #[.int .i64 0] m) 2)
    have HBA := Lib.hid hba
    have HTB := Lib.hid (HTA.out.step hba)
    clear hba
    go_wp2_with fail
    clear hmk p0
    generalize w2.alloc (.cells (madeCells #[.int .i64 0] m) 2) = w3 at *
    generalize hgb : w2.heap.size = gb at *
    have HGB := Lib.hid hgb
    clear hgb
    go_loopw [6, 7, 8, 18] (fun u q7 q8 i wr => ∃ h : Nat, h ≤ m ∧ i = .int .i64 (h : Nat) ∧ u = .int .i64 ((alN q m h).2 : Nat) ∧ RowW wr gb gb m m (alMid (alN q m h).1 m) ∧ Below gb w2 wr)
      (fun _ _ _ i _ => m - (intOf i).toNat)
    case atStart => exact ⟨0, Nat.zero_le _, rfl, rfl, by show RowW w3 gb gb m m (alMid [] m); unfold alMid; simpa using HMK.out, HBA.out⟩
    case round =>
      obtain ⟨h, hh, rfl, rfl, hrow, hbe⟩ := hrel
      have HROW := Lib.hid hrow
      have HBE := Lib.hid hbe
      have HTR := Lib.hid (HTA.out.step (show Below w2.heap.size w2 wr by rw [HGB.out]; exact hbe))
      have hsr := hbe.size
      have hlen := alN_len q m h
      have hun := alN_le q m h
      obtain ⟨l, hl⟩ : ∃ l, (alN q m h).1 = l := ⟨_, rfl⟩
      obtain ⟨u, hu⟩ : ∃ u, (alN q m h).2 = u := ⟨_, rfl⟩
      rw [hl] at HROW hlen
      rw [hu] at hun ⊢
      have HLN := Lib.hid hlen
      have HL9 := Lib.hid hl
      have HU9 := Lib.hid hu
      clear hrow hbe HMK HBA HTB hlen hl hu
      by_cases hlt : h < m
      · have hi0 : (h : Int) < (m : Int) := by omega
        go_wp2_with fail
        obtain ⟨wo, rfl⟩ : ∃ wo : World, wo = wr := ⟨_, rfl⟩
        go_loopw [8] (fun k wi => ∃ j : Nat, j ≤ h ∧ k = .int .i64 (j : Nat) ∧ (∀ l, l < j → alikeB q m l h = false) ∧ Below wo.heap.size wo wi)
          (fun k _ => h - (intOf k).toNat)
        case atStart => exact ⟨0, Nat.zero_le _, rfl, fun l hl => absurd hl (Nat.not_lt_zero _), Below.refl _ _⟩
        case round =>
          obtain ⟨j, hj, rfl, hall, hbi⟩ := hrel
          have HALL := Lib.hid hall
          have HBI := Lib.hid hbi
          have HTI := Lib.hid (HTR.out.step hbi)
          clear hall hbi
          by_cases hjh : j < h
          · have hj0 : (j : Int) < (h : Int) := by omega
            go_wp2_with fail
            refine (areAlike_any T m j h q wr HTI.out m7 (by omega) (by omega)).mono ?_
            rintro e w5 ⟨rfl, hb5⟩
            have HB5 := Lib.hid (chain HBI.out hb5)
            have hs5 := HB5.out.size
            clear hb5
            cases hal : alikeB q m j h with
            | false =>
              have HAF := Lib.hid hal
              clear hal
              go_wp2_with fail
              go_roundw
              case rel => exact ⟨j + 1, by omega, by go_num, fun l hl => by
                by_cases e : l = j
                · subst e; exact HAF.out
                · exact HALL.out l (by omega), HB5.out⟩
              case measure => simp [intOf]; omega
            | true =>
              have hrow5 := HROW.out.step HB5.out
              have x1 := hrow5.cell (j := j) (by omega)
              have x2 := hrow5.cell (j := h) hlt
              have f2 := hrow5.fz h
              have gl := hrow5.gl.2
              have HP := Lib.hid (hrow5.put h (nth (alMid l m) j))
              have HST := Lib.hid (alN_old hjh (firstOf_is (p := fun l => alikeB q m l h) hj HALL.out (.inr hal)))
              have HMS := Lib.hid (alMid_set (l := l) (m := m) (by rw [HLN.out]; exact hlt) (nth (alMid l m) j))
              have HMA := Lib.hid (alMid_at (l := l) (m := m) (k := j) (by rw [HLN.out]; exact hjh))
              clear hal hrow5
              generalize nth (alMid l m) j = z at *
              generalize nth (alMid l m) h = z2 at *
              go_wp2_with fail
              go_roundw
              case rel =>
                refine ⟨h + 1, by omega, by go_num, ?_, ?_, (HBE.out.trans (HB5.out.mono (by have := HGB.out; omega))).setCell (p := ⟨gb, h, none⟩) (Nat.le_refl _) _⟩
                · rw [HST.out]; show _ = Value.int .i64 (((alN q m h).2 : Nat) : Int); rw [HU9.out]
                · rw [HST.out]
                  show RowW _ gb gb m m (alMid ((alN q m h).1 ++ [nth (alN q m h).1 j]) m)
                  have h9 := HP.out
                  rw [HL9.out, ← HMA.out, ← HMS.out, HLN.out]
                  exact h9
              case measure => simp [intOf]; omega
          · have hj0 : ¬ (j : Int) < (h : Int) := by omega
            have hE : j = h := by omega
            subst hE
            have hrow5 := HROW.out.step HBI.out
            have x2 := hrow5.cell (j := j) hlt
            have f2 := hrow5.fz j
            have gl := hrow5.gl.2
            have hs5 := HBI.out.size
            have HP := Lib.hid (hrow5.put j (u : Int))
            have HST := Lib.hid (alN_new (firstOf_is (p := fun l => alikeB q m l j) (Nat.le_refl j) HALL.out (.inl rfl)))
            have HMS := Lib.hid (alMid_set (l := l) (m := m) (by rw [HLN.out]; exact hlt) (u : Int))
            clear hrow5
            generalize nth (alMid l m) j = z2 at *
            go_wp2_with fail
            go_roundw
            case rel =>
              refine ⟨j + 1, by omega, by go_num, ?_, ?_, (HBE.out.trans (HBI.out.mono (by have := HGB.out; omega))).setCell (p := ⟨gb, j, none⟩) (Nat.le_refl _) _⟩
              · rw [HST.out]; show _ = Value.int .i64 (((alN q m j).2 + 1 : Nat) : Int); rw [HU9.out]; go_num
              · rw [HST.out]
                show RowW _ gb gb m m (alMid ((alN q m j).1 ++ [(((alN q m j).2 : Nat) : Int)]) m)
                have h9 := HP.out
                rw [HL9.out, HU9.out, ← HMS.out, HLN.out]
                exact h9
            case measure => simp [intOf]; omega
      · have hi0 : ¬ (h : Int) < (m : Int) := by omega
        have hE : h = m := by omega
        subst hE
        go_wp2_with fail
        go_ret2
        refine ⟨⟨_, by rw [HCO.out]; rfl, ?_⟩, HB2.out.trans (HBE.out.mono (by omega))⟩
        have h9 := HROW.out.own
        rw [alMid_all HLN.out, ← HL9.out, ← HV.out] at h9
        exact h9.mono (by omega)
  · have HFO := Lib.hid hf
    have HV := Lib.hid (show alOf h zss = [] by rw [alOf, if_neg (by rw [tell_false hf]; simp)])
    have HCO := Lib.hid (show okCode h zss = 1 by rw [okCode, if_neg (by rw [tell_false hf]; simp)])
    clear hf
    go_enter Tryd.func11, Tryd.ntmps11
    go_wp2_with fail
    refine (tableOf_any h a zss c _ HR.out HL.out).mono ?_
    generalize w.alloc (.cells #[.int .i64 h, .slice a zss.length c] 29) = w1 at *
    rintro e w2 ⟨-, hn, hb⟩
    obtain rfl := hn HFO.out
    have HB2 := Lib.hid (chain HB.out hb)
    clear hn hb
    go_wp2_with fail
    go_ret2
    exact ⟨⟨_, by rw [HCO.out]; rfl, by rw [HV.out]; exact OwnI.nil _ _⟩, HB2.out⟩
end Go.Proofs.YtnebkhelobpkpaaDoor

namespace Go.Proofs.YtnebkhelobpkpaaDoor
open Go.RowKit Go.Deep
set_option linter.unusedVariables false

theorem bitsTo_ltB {m : Nat} {l : List Int} (h : ∀ z ∈ l, 0 ≤ z ∧ z < (m : Int)) : ∀ k, k ≤ l.length → bitsTo l k < 2 ^ m
  | 0, _ => by simp [bitsTo, Nat.pow_pos]
  | k + 1, hk => by
    have h1 := bitsTo_ltB h k (by omega)
    obtain ⟨h2, h3⟩ := h (nth l k) (by rw [nth_lt (by omega)]; exact List.getElem_mem _)
    have h4 : (2 : Nat) ^ (nth l k).toNat < 2 ^ m := Nat.pow_lt_pow_right (by omega) (by omega)
    exact Nat.or_lt_two_pow h1 h4
theorem bitsOf_ltB {m : Nat} {l : List Int} (h : ∀ z ∈ l, 0 ≤ z ∧ z < (m : Int)) : bitsOf l < 2 ^ m := bitsTo_ltB h _ (Nat.le_refl _)
theorem grp_lt2 {m : Nat} {l : List Int} (h : IsGrp (m : Int) l) : bitsOf l < 2 ^ m := bitsOf_ltB (grp_mem h)
/-- The bits of any list of numbers that are not negative. -/
theorem bitsTo_bitB {l : List Int} (h : ∀ z ∈ l, 0 ≤ z) (j : Nat) : ∀ k, k ≤ l.length → ((bitsTo l k).testBit j = true ↔ ∃ i, i < k ∧ nth l i = (j : Int))
  | 0, _ => by simp [bitsTo]
  | k + 1, hk => by
    have h0 := h (nth l k) (by rw [nth_lt (by omega)]; exact List.getElem_mem _)
    show (bitsTo l k ||| 2 ^ (nth l k).toNat).testBit j = true ↔ _
    rw [Nat.testBit_or, Bool.or_eq_true, bitsTo_bitB h j k (by omega), Nat.testBit_two_pow, decide_eq_true_eq]
    constructor
    · rintro (⟨i, h1, h2⟩ | h1)
      · exact ⟨i, by omega, h2⟩
      · exact ⟨k, by omega, by omega⟩
    · rintro ⟨i, h1, h2⟩
      by_cases e : i = k
      · subst e; exact .inr (by omega)
      · exact .inl ⟨i, by omega, h2⟩
theorem bits_mem {l : List Int} (h : ∀ z ∈ l, 0 ≤ z) (j : Nat) : (bitsOf l).testBit j = true ↔ (j : Int) ∈ l := by
  unfold bitsOf
  rw [bitsTo_bitB h j _ (Nat.le_refl _)]
  constructor
  · rintro ⟨i, h1, h2⟩
    rw [← h2, nth_lt h1]
    exact List.getElem_mem _
  · intro hm
    obtain ⟨i, h1, h2⟩ := List.mem_iff_getElem.1 hm
    exact ⟨i, h1, by rw [nth_lt h1]; exact h2⟩
theorem listTo_fact : ∀ m : Nat, m < 8 → ∀ x : Nat, x < 128 → x < 2 ^ m → listTo x m = listOf x := by decide +kernel
theorem pow_128 {m : Nat} (h7 : m ≤ 7) : 2 ^ m ≤ 128 := by
  have : (2 : Nat) ^ m ≤ 2 ^ 7 := Nat.pow_le_pow_right (by decide) h7
  omega
/-- Each holder of the one is one of the other. -/
def Inb (x y : Nat) : Prop := ∀ i, x.testBit i = true → y.testBit i = true
theorem Inb.refl (x : Nat) : Inb x x := fun _ h => h
theorem Inb.trans {x y z : Nat} (h : Inb x y) (k : Inb y z) : Inb x z := fun i q => k i (h i q)
/-- More holders never open less. -/
def Mono (m : Nat) (p : Nat → Bool) : Prop := ∀ x y, x < 2 ^ m → y < 2 ^ m → Inb x y → p x = true → p y = true

theorem bits_list : ∀ x : Nat, x < 128 → bitsOf (listOf x) = x := by decide +kernel
theorem grp_fact : ∀ m : Nat, m < 8 → ∀ k : Nat, k < 128 → k < 2 ^ m → ((List.range (listOf k).length).all fun i => decide (0 ≤ nth (listOf k) i) && decide (nth (listOf k) i ≤ (m : Int) - 1) && (i == 0 || decide (nth (listOf k) (i - 1) < nth (listOf k) i))) = true := by decide +kernel
theorem grp_list {m k : Nat} (hm : m ≤ 7) (hk : k < 2 ^ m) : IsGrp (m : Int) (listOf k) := fun i hi => by
  have h := grp_fact m (by omega) k (Nat.lt_of_lt_of_le hk (pow_128 hm)) hk
  have h2 := List.all_eq_true.1 h i (List.mem_range.2 hi)
  simp only [Bool.and_eq_true, Bool.or_eq_true, decide_eq_true_eq, beq_iff_eq] at h2
  exact ⟨h2.1.1, h2.1.2, fun h0 => by rcases h2.2 with q | q; omega; exact q⟩
theorem before_trans {a b c : List Int} (h1 : Before a b) (h2 : Before b c) : Before a c := Classical.byContradiction fun h => lex_neg a c b h (lex_asymm b c h2) h1
theorem fam_lt {h : Int} {zss : List (List Int)} (hf : AllGrp h zss) : ∀ d i, i + d + 1 < zss.length → Before (nthL zss i) (nthL zss (i + d + 1))
  | 0, i, hi => by
    have := (hf (i + 0 + 1) hi).2 (by omega)
    rw [show i + 0 + 1 - 1 = i by omega] at this
    exact this
  | d + 1, i, hi => by
    have h1 := (hf (i + (d + 1) + 1) hi).2 (by omega)
    rw [show i + (d + 1) + 1 - 1 = i + d + 1 by omega] at h1
    exact before_trans (fam_lt hf d i (by omega)) h1
theorem fam_pairwise {h : Int} {zss : List (List Int)} (hf : AllGrp h zss) : zss.Pairwise Before := by
  rw [List.pairwise_iff_getElem]
  intro i j hi hj hij
  have := fam_lt hf (j - i - 1) i (by omega)
  rw [show i + (j - i - 1) + 1 = j by omega, nthL_lt hi, nthL_lt hj] at this
  exact this
theorem fam_bitsB {m : Nat} {zss : List (List Int)} (hf : FamOk (m : Int) zss) : (∀ x ∈ bitsUpTo zss zss.length, x < 2 ^ m) ∧
    (∀ x ∈ bitsUpTo zss zss.length, ∀ y ∈ bitsUpTo zss zss.length, (∀ i, x.testBit i = true → y.testBit i = true) → x = y) ∧ (bitsUpTo zss zss.length).Nodup := by
  have hm : ∀ x, x ∈ bitsUpTo zss zss.length → ∃ i, i < zss.length ∧ bitsOf (nthL zss i) = x := fun x hx => by
    simp only [bitsUpTo, List.mem_map, List.mem_range] at hx
    exact hx
  refine ⟨fun x hx => ?_, fun x hx y hy hs => ?_, ?_⟩
  · obtain ⟨i, h1, rfl⟩ := hm x hx
    exact grp_lt2 (hf.2.1 i h1).1
  · obtain ⟨i, h1, rfl⟩ := hm x hx
    obtain ⟨j, h2, rfl⟩ := hm y hy
    by_cases e : i = j
    · rw [e]
    · exact absurd (sub_iff.2 hs) (hf.2.2 i h1 j h2 e)
  · unfold bitsUpTo
    rw [List.Nodup, List.pairwise_map]
    refine List.Pairwise.imp_of_mem (R := fun a b => a < b) (fun {i j} h1 h2 hlt e => ?_) List.pairwise_lt_range
    exact hf.2.2 i (List.mem_range.1 h1) j (List.mem_range.1 h2) (by omega) (by unfold Part; rw [e, Nat.and_self])
/-- A valid family is the family of what it opens. -/
theorem fam_of_tbl {m : Nat} {zss : List (List Int)} (h7 : m ≤ 7) (hf : FamOk (m : Int) zss) : zss = famOf m (tblAt zss zss.length) := by
  obtain ⟨h1, h2, h3⟩ := fam_bitsB hf
  have ho : Ord (fun i => i) m := ⟨fun i h => h, fun i j _ _ h => h⟩
  have hphi : ∀ x, x < 2 ^ m → phiN (fun i => i) x m = x := fun x hx => eq_of_bits fun i => (phi_bit _ x i m).trans ⟨fun h => h.2, fun h => ⟨bit_lt hx h, h⟩⟩
  have hpsi : ∀ x, x < 2 ^ m → psiN (fun i => i) x m = x := fun x hx => eq_of_bits fun i => (psi_bit _ x i m).trans ⟨fun ⟨j, _, h, e⟩ => e ▸ h, fun h => ⟨i, bit_lt hx h, h, rfl⟩⟩
  have e : ((bitsUpTo zss zss.length).map fun x => listOf (phiN (fun i => i) x m)) = zss := by
    refine List.ext_getElem (by simp [bitsUpTo]) fun i hi hi2 => ?_
    have hg := (hf.2.1 i hi2).1
    simp only [bitsUpTo, List.getElem_map, List.getElem_range]
    rw [hphi _ (grp_lt2 hg), listOf_bitsOf hg (by omega), nthL_lt hi2]
  have hs : Sorts ((bitsUpTo zss zss.length).map fun x => listOf (phiN (fun i => i) x m)) zss := by
    rw [e]
    exact ⟨List.Perm.refl _, (fam_pairwise hf.2.1).imp fun h => lex_asymm _ _ h⟩
  exact (renamed_sorted ho h7 h1 h2 h3 hs).trans (famOf_congr h7 fun y hy => by show anyIn _ (psiN _ y m) = anyIn _ y; rw [hpsi y hy])
/-- Below what opens there is a least group. -/
theorem least_below {m : Nat} {p : Nat → Bool} (h7 : m ≤ 7) (x : Nat) : x < 2 ^ m → p x = true → ∃ y, y < 2 ^ m ∧ leastB m p y = true ∧ Inb y x := by
  induction x using Nat.strongRecOn with
  | ind x ih =>
    intro hx hp
    by_cases hl : leastB m p x = true
    · exact ⟨x, hx, hl, fun i h => h⟩
    · have hx7 : x < 2 ^ 7 := by have := pow_128 h7; omega
      obtain ⟨i, hi, hb, hd⟩ : ∃ i, i < m ∧ x.testBit i = true ∧ p (dropOne x i) = true := by
        refine Classical.byContradiction fun hn => hl (leastB_iff.2 ⟨hp, fun i hi hb => ?_⟩)
        cases hq : p (dropOne x i)
        · rfl
        · exact absurd ⟨i, hi, hb, hq⟩ hn
      have hle := dropOne_le x i
      have hne : dropOne x i ≠ x := fun e => by
        have := (drop_bit (i := i) (j := i) hx7 (by omega)).1 (by rw [e]; exact hb)
        exact this.2 rfl
      obtain ⟨y, h1, h2, h3⟩ := ih (dropOne x i) (by omega) (by omega) hd
      exact ⟨y, h1, h2, fun j hj => ((drop_bit hx7 (by omega)).1 (h3 j hj)).1⟩
theorem mem_fam {m : Nat} (h7 : m ≤ 7) {p : Nat → Bool} {zs : List Int} : zs ∈ famOf m p ↔ ∃ x, x < 2 ^ m ∧ leastB m p x = true ∧ zs = listOf x := by
  unfold famOf pickOf
  rw [List.mem_map]
  constructor
  · rintro ⟨g, hg, rfl⟩
    rw [List.mem_filter] at hg
    exact ⟨g.val, (mem_lex h7 g).1 hg.1, hg.2, rfl⟩
  · rintro ⟨x, hx, hl, rfl⟩
    have h128 := pow_128 h7
    exact ⟨⟨x, by omega⟩, List.mem_filter.2 ⟨(mem_lex h7 _).2 hx, hl⟩, rfl⟩
theorem fam_at {m : Nat} (h7 : m ≤ 7) {p : Nat → Bool} {i : Nat} (hi : i < (famOf m p).length) : ∃ x, x < 2 ^ m ∧ leastB m p x = true ∧ nthL (famOf m p) i = listOf x := (mem_fam h7).1 (by rw [nthL_lt hi]; exact List.getElem_mem _)
theorem fam_up {m : Nat} (h7 : m ≤ 7) {p : Nat → Bool} {i j : Nat} (hi : i < (famOf m p).length) (hj : j < (famOf m p).length) (hij : i < j) : Before (nthL (famOf m p) i) (nthL (famOf m p) j) := by
  have h := List.pairwise_iff_getElem.1 (show (famOf m p).Pairwise Before from pickOf_before h7 (leastB m p)) i j hi hj hij
  rw [nthL_lt hi, nthL_lt hj]
  exact h
/-- The family of a rule is valid. -/
theorem famOk_of {m : Nat} (h1 : 1 ≤ m) (h7 : m ≤ 7) {p : Nat → Bool} (hp : Mono m p) : FamOk (m : Int) (famOf m p) := by
  have h128 := pow_128 h7
  refine ⟨⟨by omega, by omega⟩, fun i hi => ⟨?_, fun h0 => ?_⟩, fun i hi j hj hne hpart => ?_⟩
  · obtain ⟨x, hx, _, e⟩ := fam_at h7 hi
    rw [e]; exact grp_list h7 hx
  · exact fam_up h7 (by omega) hi (by omega)
  · obtain ⟨x, hx, lx, ex⟩ := fam_at h7 hi
    obtain ⟨y, hy, ly, ey⟩ := fam_at h7 hj
    unfold Part at hpart
    rw [ex, ey, bits_list x (by omega), bits_list y (by omega)] at hpart
    have hsub := sub_iff.1 hpart
    have hxy : x ≠ y := fun e => by
      have hb : Before (listOf x) (listOf x) := by
        rcases Nat.lt_or_gt_of_ne hne with h | h
        · have := fam_up h7 hi hj h
          rw [ex, ey, ← e] at this; exact this
        · have := fam_up h7 hj hi h
          rw [ex, ey, ← e] at this; exact this
      exact lex_asymm _ _ hb hb
    obtain ⟨k, hk1, hk2⟩ : ∃ k, y.testBit k = true ∧ ¬ x.testBit k = true := Classical.byContradiction fun hn => hxy (eq_of_bits fun k => ⟨hsub k, fun h => Classical.byContradiction fun hk => hn ⟨k, h, hk⟩⟩)
    have hkm := bit_lt hy hk1
    have hd := (leastB_iff.1 ly).2 k hkm hk1
    have hle := dropOne_le y k
    have : p (dropOne y k) = true := hp x (dropOne y k) hx (by omega) (fun i h => (drop_bit (by omega) (by omega)).2 ⟨hsub i h, fun e => hk2 (e ▸ h)⟩) (leastB_iff.1 lx).1
    rw [this] at hd; cases hd
/-- The family of a rule opens what the rule says. -/
theorem tbl_of {m : Nat} (h7 : m ≤ 7) {p : Nat → Bool} (hp : Mono m p) {x : Nat} (hx : x < 2 ^ m) : tblAt (famOf m p) (famOf m p).length x = p x := by
  have h128 := pow_128 h7
  rw [Bool.eq_iff_iff]
  unfold tblAt
  rw [anyIn_iff]
  constructor
  · rintro ⟨y, hy, hs⟩
    simp only [bitsUpTo, List.mem_map, List.mem_range] at hy
    obtain ⟨i, hi, rfl⟩ := hy
    obtain ⟨z, hz, lz, ez⟩ := fam_at h7 hi
    rw [ez, bits_list z (by omega)] at hs
    exact hp z x hz hx hs (leastB_iff.1 lz).1
  · intro h
    obtain ⟨y, hy, ly, hs⟩ := least_below h7 x hx h
    have hm : listOf y ∈ famOf m p := (mem_fam h7).2 ⟨y, hy, ly, rfl⟩
    obtain ⟨i, hi, e⟩ := List.mem_iff_getElem.1 hm
    refine ⟨y, ?_, hs⟩
    simp only [bitsUpTo, List.mem_map, List.mem_range]
    exact ⟨i, hi, by rw [nthL_lt hi, e, bits_list y (by omega)]⟩
theorem tbl_mono (m : Nat) (zss : List (List Int)) (k : Nat) : Mono m (tblAt zss k) := fun x y _ _ hs h => by
  unfold tblAt at h ⊢
  rw [anyIn_iff] at h ⊢
  obtain ⟨g, hg, hi⟩ := h
  exact ⟨g, hg, fun i h => hs i (hi i h)⟩
/-- Two valid families are one if they open the same groups. -/
theorem fam_ext {m : Nat} {z1 z2 : List (List Int)} (h7 : m ≤ 7) (h1 : FamOk (m : Int) z1) (h2 : FamOk (m : Int) z2) (h : ∀ x, x < 2 ^ m → tblAt z1 z1.length x = tblAt z2 z2.length x) : z1 = z2 :=
  (fam_of_tbl h7 h1).trans ((famOf_congr h7 h).trans (fam_of_tbl h7 h2).symm)
theorem fam_eq {m : Nat} {p : Nat → Bool} {zss : List (List Int)} (h7 : m ≤ 7) (h1 : FamOk (m : Int) zss) (h : ∀ x, x < 2 ^ m → p x = tblAt zss zss.length x) : famOf m p = zss :=
  (famOf_congr h7 h).trans (fam_of_tbl h7 h1).symm
theorem off_bit {m x i : Nat} (hx : x < 2 ^ m) : (2 ^ m - 1 - x).testBit i = true ↔ i < m ∧ ¬ x.testBit i = true := by
  rw [show 2 ^ m - 1 - x = 2 ^ m - (x + 1) by omega, Nat.testBit_two_pow_sub_succ hx]; simp
theorem off_inb {m x y : Nat} (hx : x < 2 ^ m) (hy : y < 2 ^ m) (h : Inb x y) : Inb (2 ^ m - 1 - y) (2 ^ m - 1 - x) := fun i hi => (off_bit hx).2 ⟨((off_bit hy).1 hi).1, fun h' => ((off_bit hy).1 hi).2 (h i h')⟩
def dualBF (m : Nat) (zss : List (List Int)) (x : Nat) : Bool := !tblAt zss zss.length (2 ^ m - 1 - x)
theorem dual_mono (m : Nat) (zss : List (List Int)) : Mono m (dualBF m zss) := fun x y hx hy hs h => by
  unfold dualBF at h ⊢
  cases hq : tblAt zss zss.length (2 ^ m - 1 - y) with
  | false => rfl
  | true =>
    have : tblAt zss zss.length (2 ^ m - 1 - x) = true := tbl_mono m zss _ _ _ (by omega) (by omega) (off_inb hx hy hs) hq
    rw [this] at h; cases h
theorem bits_has {n : Int} {zs : List Int} (hg : IsGrp n zs) (j : Nat) : (bitsOf zs).testBit j = true ↔ (j : Int) ∈ zs := bits_mem (fun z hz => (grp_mem hg z hz).1) j
/-- One group is in another one just if its numbers are. -/
theorem inside_iff {n k : Int} {xs ys : List Int} (hx : IsGrp n xs) (hy : IsGrp k ys) : (∀ z ∈ xs, z ∈ ys) ↔ Inb (bitsOf xs) (bitsOf ys) := by
  constructor
  · exact fun h i hi => (bits_has hy i).2 (h _ ((bits_has hx i).1 hi))
  · intro h z hz
    have h0 := (grp_mem hx z hz).1
    obtain ⟨i, rfl⟩ : ∃ i : Nat, z = i := ⟨z.toNat, by omega⟩
    exact (bits_has hy i).1 (h i ((bits_has hx i).2 hz))
end Go.Proofs.YtnebkhelobpkpaaDoor

namespace Go.Proofs.YtnebkhelobpkpaaDoor
open Go.RowKit Go.Deep
set_option linter.unusedVariables false

/-- The order in which h and k have changed places. -/
def swAt (h k i : Nat) : Int := if i = h then (k : Int) else if i = k then (h : Int) else (i : Int)
def swL (m h k : Nat) : List Int := (List.range m).map (swAt h k)
theorem swL_len (m h k : Nat) : (swL m h k).length = m := by simp [swL]
theorem swL_at {m h k i : Nat} (hi : i < m) : nth (swL m h k) i = swAt h k i := by
  rw [nth_lt (by rw [swL_len]; exact hi)]; simp [swL]
theorem swL_succ (m h k : Nat) : swL (m + 1) h k = swL m h k ++ [swAt h k m] := by simp [swL, List.range_succ]
theorem swAt_h (h k : Nat) : swAt h k h = (k : Int) := by unfold swAt; rw [if_pos rfl]
theorem swAt_k {h k i : Nat} (h1 : i ≠ h) (h2 : i = k) : swAt h k i = (h : Int) := by unfold swAt; rw [if_neg h1, if_pos h2]
theorem swAt_o {h k i : Nat} (h1 : i ≠ h) (h2 : i ≠ k) : swAt h k i = (i : Int) := by unfold swAt; rw [if_neg h1, if_neg h2]
theorem swAt_lt {m h k i : Nat} (hh : h < m) (hk : k < m) (hi : i < m) : 0 ≤ swAt h k i ∧ swAt h k i < (m : Int) := by
  unfold swAt
  split
  · omega
  · split <;> omega
theorem swL_ord {m h k : Nat} (hh : h < m) (hk : k < m) : OrdOk (m : Int) (swL m h k) := by
  refine ⟨by rw [swL_len], fun i hi => ?_, fun i j hij hj => ?_⟩
  · rw [swL_len] at hi
    rw [swL_at hi]
    exact swAt_lt hh hk hi
  · rw [swL_len] at hj
    rw [swL_at (by omega), swL_at hj]
    unfold swAt
    split <;> split <;> (try split) <;> (try split) <;> omega
theorem sw_o {m h k i : Nat} (hi : i < m) : oOf (swL m h k) i = if i = h then k else if i = k then h else i := by
  unfold oOf
  rw [swL_at hi]
  unfold swAt
  split
  · rfl
  · split <;> rfl
theorem swp_bit {i j g l : Nat} : (swpN i j g).testBit l = if l = i then g.testBit j else if l = j then g.testBit i else g.testBit l := by
  unfold swpN
  by_cases e : g.testBit i = g.testBit j
  · rw [if_pos e]
    by_cases h1 : l = i
    · rw [if_pos h1, h1, e]
    · rw [if_neg h1]
      by_cases h2 : l = j
      · rw [if_pos h2, h2, e]
      · rw [if_neg h2]
  · rw [if_neg e, Nat.testBit_xor, Nat.testBit_or, Nat.testBit_two_pow, Nat.testBit_two_pow]
    by_cases h1 : l = i
    · subst h1
      rw [if_pos rfl]
      cases ha : g.testBit l <;> cases hb : g.testBit j <;> simp_all
    · rw [if_neg h1]
      by_cases h2 : l = j
      · subst h2
        rw [if_pos rfl]
        cases ha : g.testBit i <;> cases hb : g.testBit l <;> simp_all
      · rw [if_neg h2]
        have e1 : decide (i = l) = false := decide_eq_false fun q => h1 q.symm
        have e2 : decide (j = l) = false := decide_eq_false fun q => h2 q.symm
        rw [e1, e2]; simp
theorem psi_sw {m h k g : Nat} (hh : h < m) (hk : k < m) (hg : g < 2 ^ m) : psiN (oOf (swL m h k)) g m = swpN k h g := eq_of_bits fun l => by
  rw [psi_bit, swp_bit]
  constructor
  · rintro ⟨i, h1, h2, h3⟩
    rw [sw_o h1] at h3
    split at h3
    · subst h3; rename_i e; subst e; rw [if_pos rfl]; exact h2
    · split at h3
      · subst h3
        rename_i e1 e; subst e
        rw [if_neg (fun q => e1 q.symm), if_pos rfl]; exact h2
      · subst h3
        rename_i e1 e2
        rw [if_neg e2, if_neg e1]; exact h2
  · intro h1
    split at h1
    · rename_i e; subst e
      exact ⟨h, hh, h1, by rw [sw_o hh, if_pos rfl]⟩
    · split at h1
      · rename_i e1 e; subst e
        exact ⟨k, hk, h1, by rw [sw_o hk, if_neg (fun q => e1 q.symm), if_pos rfl]⟩
      · rename_i e1 e2
        have hl := bit_lt hg h1
        exact ⟨l, hl, h1, by rw [sw_o hl, if_neg e2, if_neg e1]⟩
theorem ren_monoA {m : Nat} {zs : List Int} (zss : List (List Int)) (h : OrdOk (m : Int) zs) : Mono m (renB zs zss m) := fun x y hx hy hs hp => by
  unfold renB at hp ⊢
  rw [anyIn_iff] at hp ⊢
  obtain ⟨g, hg, hi⟩ := hp
  refine ⟨g, hg, fun i hb => ?_⟩
  have := hi i hb
  rw [psi_bit] at this ⊢
  obtain ⟨j, h1, h2, h3⟩ := this
  exact ⟨j, h1, hs j h2, h3⟩
theorem swp_lt2A {m i j g : Nat} (hi : i < m) (hj : j < m) (hg : g < 2 ^ m) : swpN i j g < 2 ^ m := by
  unfold swpN
  split
  · exact hg
  · exact Nat.xor_lt_two_pow hg (Nat.or_lt_two_pow (Nat.pow_lt_pow_right (by decide) hi) (Nat.pow_lt_pow_right (by decide) hj))
theorem alike_ofA {m i j : Nat} {q : Nat → Bool} (h7 : m ≤ 7) : alikeB q m i j = true ↔ ∀ g, g < 2 ^ m → q g = q (swpN i j g) := by
  have h128 := pow_128 h7
  unfold alikeB
  rw [List.all_eq_true]
  constructor
  · intro h g hg
    have := h ⟨g, by omega⟩ ((mem_lex h7 _).2 hg)
    simpa using this
  · intro h g hg
    have := h g.val ((mem_lex h7 g).1 hg)
    simpa using this
/-- The family is the renamed one just if the two are alike. -/
theorem alike_is {m h k : Nat} {zss : List (List Int)} (h7 : m ≤ 7) (hf : FamOk (m : Int) zss) (hh : h < m) (hk : k < m) :
    tell (zss = famOf m (renB (swL m h k) zss m)) = alikeB (tabOf (m : Int) zss) m k h := by
  have ho := swL_ord hh hk
  have e0 : ∀ g, g < 2 ^ m → tabOf (m : Int) zss g = tblAt zss zss.length g := fun g hg => by
    unfold tabOf
    rw [Int.toNat_natCast]
    exact seenBy_all h7 _ hg
  have e1 : ∀ g, g < 2 ^ m → renB (swL m h k) zss m g = tblAt zss zss.length (swpN k h g) := fun g hg => by
    unfold renB
    rw [psi_sw hh hk hg]
    rfl
  have key : zss = famOf m (renB (swL m h k) zss m) ↔ alikeB (tabOf (m : Int) zss) m k h = true := by
    rw [alike_ofA h7]
    constructor
    · intro e g hg
      have h2 := tbl_of h7 (ren_monoA zss ho) hg
      rw [← e, e1 g hg] at h2
      rw [e0 g hg, e0 _ (swp_lt2A hk hh hg)]
      exact h2
    · intro e
      exact (fam_eq h7 hf fun g hg => by
        have h2 := e g hg
        rw [e0 g hg, e0 _ (swp_lt2A hk hh hg)] at h2
        rw [e1 g hg, ← h2]).symm
  cases ha : alikeB (tabOf (m : Int) zss) m k h with
  | true => exact tell_true (key.2 ha)
  | false => exact tell_false fun q => by rw [key.1 q] at ha; cases ha
end Go.Proofs.YtnebkhelobpkpaaDoor

namespace Go.Proofs.YtnebkhelobpkpaaDoor
open Go.RowKit Go.Deep
set_option linter.unusedVariables false

theorem eq_iff_nth {xs ys : List Int} : xs = ys ↔ xs.length = ys.length ∧ ∀ i, i < xs.length → nth xs i = nth ys i :=
  ⟨fun h => by subst h; exact ⟨rfl, fun _ _ => rfl⟩, fun ⟨h1, h2⟩ => ext_nth h1 h2⟩
theorem eq_iff_nthL {xs ys : List (List Int)} : xs = ys ↔ xs.length = ys.length ∧ ∀ i, i < xs.length → nthL xs i = nthL ys i :=
  ⟨fun h => by subst h; exact ⟨rfl, fun _ _ => rfl⟩, fun ⟨h1, h2⟩ => ext_nthL h1 h2⟩

set_option maxRecDepth 100000 in
set_option maxHeartbeats 400000 in
theorem l00Same_any (a b : Option Addr) (xs ys : List Int) (ca cb : Nat) (w : World) (ha : Ints w a xs) (hb : Ints w b ys) (hlx : xs.length ≤ 9223372036854775807) (hly : ys.length ≤ 9223372036854775807) :
    Calls Tryd.prog 120 #[.slice a xs.length ca, .slice b ys.length cb] w fun e w' => e = .returned (.bool (tell (xs = ys))) ∧ Quiet w w' := by
  by_cases hlen : xs.length = ys.length
  · have t0 : ((xs.length : Int) != (ys.length : Int)) = false := by simp [hlen]
    have t00 : (xs.length != ys.length) = false := by simp [hlen]
    have HLN := Lib.hid hlen
    clear hlen
    go_enter Tryd.func120, Tryd.ntmps120
    go_wp2
    go_loopw [5] (fun i wr => ∃ k : Nat, k ≤ xs.length ∧ i = .int .i64 k ∧ Quiet w wr ∧ ∀ j, j < k → nth xs j = nth ys j)
      (fun i _ => xs.length - (intOf i).toNat)
    case atStart => exact ⟨0, Nat.zero_le _, rfl, Quiet.refl _, fun j hj => absurd hj (Nat.not_lt_zero _)⟩
    case round =>
      obtain ⟨k, hk, rfl, hq, hall⟩ := hrel
      have HQ := Lib.hid hq
      have HA := Lib.hid hall
      have hax := ha.quiet hq
      have hbx := hb.quiet hq
      clear hall hq
      by_cases hlt : k < xs.length
      · have hlty : k < ys.length := by have := HLN.out; omega
        rcases hax with h | ⟨b1, o1, rfl, hc1⟩
        · rw [h] at hlt; exact absurd hlt (Nat.not_lt_zero _)
        rcases hbx with h | ⟨b2, o2, rfl, hc2⟩
        · rw [h] at hlty; exact absurd hlty (Nat.not_lt_zero _)
        have g1 := hc1 k hlt
        have g2 := hc2 k hlty
        have hix : (k : Int) < (xs.length : Int) := by omega
        have hiy : (k : Int) < (ys.length : Int) := by omega
        clear hc1 hc2
        by_cases hne : nth xs k = nth ys k
        · have t1 : (nth xs k != nth ys k) = false := by simp [hne]
          have HN := Lib.hid hne
          clear hne
          go_wp2
          go_quiet (fail)
          go_wp2
          go_roundw
          case rel =>
            refine ⟨k + 1, by omega, by go_num, HQ.out.trans ⟨_, rfl⟩, fun j hj => ?_⟩
            by_cases e : j = k
            · subst e; exact HN.out
            · exact HA.out j (by omega)
          case measure => simp [intOf]; omega
        · have t1 : (nth xs k != nth ys k) = true := by simp [hne]
          have HN := Lib.hid (show ¬ xs = ys from fun e => hne (by rw [e]))
          clear hne
          go_wp2
          go_quiet (fail)
          go_wp2
          go_ret
          exact ⟨ret_bool (tell_false HN.out).symm, HQ.out.trans ⟨_, rfl⟩⟩
      · have HY := Lib.hid (show xs = ys from ext_nth HLN.out (fun i hi => HA.out i (by omega)))
        go_wp2
        go_ret
        exact ⟨ret_bool (tell_true HY.out).symm, HQ.out⟩
  · have t0 : ((xs.length : Int) != (ys.length : Int)) = true := by simp; omega
    have t00 : (xs.length != ys.length) = true := by simp [hlen]
    have HN := Lib.hid (show ¬ xs = ys from fun e => hlen (by rw [e]))
    clear hlen
    go_enter Tryd.func120, Tryd.ntmps120
    go_wp2
    go_ret
    exact ⟨ret_bool (tell_false HN.out).symm, Quiet.refl _⟩

end Go.Proofs.YtnebkhelobpkpaaDoor

namespace Go.Proofs.YtnebkhelobpkpaaDoor
open Go.RowKit Go.Deep
set_option linter.unusedVariables false

set_option maxRecDepth 100000 in
set_option maxHeartbeats 800000 in
theorem specSame_any (hf hg : Int) (a b : Option Addr) (xs ys : List (List Int)) (ca cb : Nat) (w : World) (ha : Rows2 w a xs) (hb : Rows2 w b ys) (hlx : Lens xs) (hly : Lens ys) :
    Calls Tryd.prog 78 #[.agg #[.int .i64 hf, .slice a xs.length ca], .agg #[.int .i64 hg, .slice b ys.length cb]] w fun e w' => e = .returned (.bool (tell (hf = hg ∧ xs = ys))) ∧ Below w.heap.size w w' := by
  have hl1 : xs.length ≤ 9223372036854775807 := hlx.1
  have HLX := Lib.hid hlx
  have HLY := Lib.hid hly
  have hb1 := ((Below.refl w.heap.size w).alloc (Nat.le_refl _) (.cells #[.int .i64 hf, .slice a xs.length ca] 29)).alloc (by simp) (.cells #[.int .i64 hg, .slice b ys.length cb] 29)
  have HB1 := Lib.hid hb1
  have HA := Lib.hid (ha.below hb1 (Nat.le_refl _))
  have HB := Lib.hid (hb.below hb1 (Nat.le_refl _))
  clear hlx hly hb1 ha hb
  by_cases hh : hf = hg
  · have s0 : (hf != hg) = false := by simp [hh]
    have HH := Lib.hid hh
    clear hh
    by_cases hlen : xs.length = ys.length
    · have t0 : ((xs.length : Int) != (ys.length : Int)) = false := by simp [hlen]
      have t00 : (xs.length != ys.length) = false := by simp [hlen]
      have HLN := Lib.hid hlen
      clear hlen
      go_enter Tryd.func78, Tryd.ntmps78
      go_wp2_with fail
      obtain ⟨W0, hW0⟩ : ∃ W0, (w.alloc (.cells #[.int .i64 hf, .slice a xs.length ca] 29)).alloc (.cells #[.int .i64 hg, .slice b ys.length cb] 29) = W0 := ⟨_, rfl⟩
      have c0 : W0.cell? ⟨w.heap.size, 1, none⟩ = some (.slice a xs.length ca) := by rw [← hW0]; simp
      have c1 : W0.cell? ⟨w.heap.size + 1, 1, none⟩ = some (.slice b ys.length cb) := by rw [← hW0]; simp
      rw [hW0] at HA HB HB1
      simp only [hW0]
      clear hW0
      go_loopw [5] (fun i wr => ∃ k : Nat, k ≤ xs.length ∧ i = .int .i64 k ∧ Quiet W0 wr ∧ ∀ j, j < k → nthL xs j = nthL ys j)
        (fun i _ => xs.length - (intOf i).toNat)
      case atStart => exact ⟨0, Nat.zero_le _, rfl, Quiet.refl _, fun j hj => absurd hj (Nat.not_lt_zero _)⟩
      case round =>
        obtain ⟨k, hk, rfl, hq, hall⟩ := hrel
        have HQ := Lib.hid hq
        have HAL := Lib.hid hall
        have d0 := (hq.cell _).trans c0
        have d1 := (hq.cell _).trans c1
        have HBQ := Lib.hid (HB1.out.trans ((quiet_below hq).mono (by have := HB1.out.size; omega)))
        by_cases hlt : k < xs.length
        · have hlty : k < ys.length := by have := HLN.out; omega
          rcases HA.out.quiet hq with h | ⟨b1, o1, rfl, hc1⟩
          · rw [h] at hlt; exact absurd hlt (Nat.not_lt_zero _)
          rcases HB.out.quiet hq with h | ⟨b2, o2, rfl, hc2⟩
          · rw [h] at hlty; exact absurd hlty (Nat.not_lt_zero _)
          obtain ⟨ai, ci, g1, i1⟩ := hc1 k hlt
          obtain ⟨aj, cj, g2, i2⟩ := hc2 k hlty
          have hix : (k : Int) < (xs.length : Int) := by omega
          have hiy : (k : Int) < (ys.length : Int) := by omega
          have I1 := Lib.hid i1
          have I2 := Lib.hid i2
          clear hc1 hc2 hall hq c0 c1 i1 i2
          by_cases hne : nthL xs k = nthL ys k
          · have HT := Lib.hid (tell_true hne)
            have HN := Lib.hid hne
            clear hne
            go_wp2
            go_quiet ((go_at_call 120; refine Calls.quiet_of (v := .bool true) ?_; rw [← HT.out]; exact l00Same_any _ _ (nthL xs k) (nthL ys k) _ _ _ (I1.out.quiet ⟨_, rfl⟩) (I2.out.quiet ⟨_, rfl⟩) (HLX.out.2 k hlt) (HLY.out.2 k hlty)))
            go_wp2
            go_roundw
            case rel =>
              refine ⟨k + 1, by omega, by go_num, HQ.out.trans ⟨_, rfl⟩, fun j hj => ?_⟩
              by_cases e : j = k
              · subst e; exact HN.out
              · exact HAL.out j (by omega)
            case measure => simp [intOf]; omega
          · have HT := Lib.hid (tell_false hne)
            have HN := Lib.hid (show ¬ (hf = hg ∧ xs = ys) from fun e => hne (by rw [e.2]))
            clear hne
            go_wp2
            go_quiet ((go_at_call 120; refine Calls.quiet_of (v := .bool false) ?_; rw [← HT.out]; exact l00Same_any _ _ (nthL xs k) (nthL ys k) _ _ _ (I1.out.quiet ⟨_, rfl⟩) (I2.out.quiet ⟨_, rfl⟩) (HLX.out.2 k hlt) (HLY.out.2 k hlty)))
            go_wp2
            go_ret
            exact ⟨ret_bool (tell_false HN.out).symm, below_drewN HBQ.out _⟩
        · have HY := Lib.hid (show hf = hg ∧ xs = ys from ⟨HH.out, ext_nthL HLN.out (fun i hi => hall i (by omega))⟩)
          clear hall hq c0 c1
          go_wp2
          go_ret
          exact ⟨ret_bool (tell_true HY.out).symm, HBQ.out⟩
    · have t0 : ((xs.length : Int) != (ys.length : Int)) = true := by simp; omega
      have t00 : (xs.length != ys.length) = true := by simp [hlen]
      have HN := Lib.hid (show ¬ (hf = hg ∧ xs = ys) from fun e => hlen (by rw [e.2]))
      clear hlen
      go_enter Tryd.func78, Tryd.ntmps78
      go_wp2_with fail
      go_ret
      exact ⟨ret_bool (tell_false HN.out).symm, HB1.out⟩
  · have s0 : (hf != hg) = true := by simp [hh]
    have HN := Lib.hid (show ¬ (hf = hg ∧ xs = ys) from fun e => hh e.1)
    clear hh
    go_enter Tryd.func78, Tryd.ntmps78
    go_wp2_with fail
    go_ret
    exact ⟨ret_bool (tell_false HN.out).symm, HB1.out⟩

end Go.Proofs.YtnebkhelobpkpaaDoor

namespace Go.Proofs.YtnebkhelobpkpaaDoor
open Go.RowKit Go.Deep Go.Shelf
set_option linter.unusedVariables false

theorem ints_of_ownA {w : World} {base n c : Nat} {a : Option Addr} {zs : List Int} (h : OwnI w base (.slice a n c) zs) : Ints w a zs := by
  obtain ⟨a', c', e, hi, _⟩ := h.ints
  cases e
  exact hi
theorem vals_atA (zs : List Int) {i : Nat} (h : i < zs.length) : (vals zs)[i]? = some (.int .i64 (nth zs i)) := by
  unfold vals
  rw [List.getElem?_map, List.getElem?_eq_getElem h, nth_lt h]
  rfl

set_option maxHeartbeats 4000000 in
set_option maxRecDepth 100000 in
theorem l01Swapped_any (m fb : Nat) (a : Option Addr) (zss : List (List Int)) (c h k : Nat) (w : World) (hbox : FamBox w fb (m : Nat) a zss.length c) (hr : Rows2 w a zss) (hl : Lens zss) (hf : FamOk (m : Int) zss) (hh : h < m) (hk : k < m) :
    Calls Tryd.prog 36 #[.pointer (some ⟨fb, 0, none⟩), .int .i64 (h : Nat), .int .i64 (k : Nat)] w fun e w' => e = .returned (.bool (alikeB (tabOf (m : Int) zss) m k h)) ∧ Below w.heap.size w w' := by
  have m7 : m ≤ 7 := by have := hf.1.2; omega
  have hfb := World.block_lt_of_cell? _ _ hbox.1
  have HX := Lib.hid hbox
  have HROWS := Lib.hid hr
  have HL := Lib.hid hl
  have HFO := Lib.hid hf
  have HIS := Lib.hid (alike_is m7 hf hh hk)
  clear hbox hr hl hf
  obtain ⟨i0, hi, hz0, hz1, hz2⟩ := info_parts Tryd.infoInt64
  go_enter Tryd.func36, Tryd.ntmps36
  go_wp2_with fail
  have hown : OwnI (w.alloc (.cells #[] 2)) w.heap.size (.slice (some ⟨w.heap.size, 0, none⟩) 0 0) [] := World.ownsRow_made w #[] 0 (Nat.le_refl _) (by unfold maxLen; omega) rfl
  have hb1 := (Below.refl w.heap.size w).alloc (Nat.le_refl _) (.cells #[] 2)
  generalize (Value.slice (some ⟨w.heap.size, 0, none⟩) 0 0) = v0 at *
  generalize w.alloc (.cells #[] 2) = w0 at *
  go_loopw [7, 8] (fun v i wr => ∃ j : Nat, j ≤ m ∧ i = .int .i64 j ∧ OwnI wr w.heap.size v (swL j h k) ∧ Below w.heap.size w wr)
    (fun _ i _ => m - (intOf i).toNat)
  case atStart => exact ⟨0, Nat.zero_le _, rfl, hown, hb1⟩
  case round =>
    obtain ⟨j, hj, rfl, hown2, hbel⟩ := hrel
    have HOW := Lib.hid hown2
    have HBW := Lib.hid hbel
    have hsr := hbel.size
    have p0 := (hbel.cell (p := ⟨fb, 0, none⟩) hfb).trans HX.out.1
    have hlj := swL_len j h k
    clear hown hb1
    by_cases hlt : j < m
    · have hji : (j : Int) < (m : Int) := by omega
      clear hown2 hbel
      by_cases e1 : j = h
      · have HSU := Lib.hid (show swL (j + 1) h k = swL j h k ++ [(k : Int)] by rw [swL_succ]; unfold swAt; rw [if_pos e1])
        subst e1
        have t1 : ((j : Int) == (j : Int)) = true := by simp
        go_wp2_with (at_builtin; refine wpList_append_own _ rfl _ _ 26 rfl w.heap.size 2 i0 (.int .i64 0) 1 8 Tryd.underlying26 hi hz0 hz1 hz2 rfl (by decide) _ _ _ rfl (World.ownsRow.alloc HOW.out _) ⟨wr.heap.size, 0, none⟩ 1 1 [.int .i64 (k : Int)] rfl rfl (cell_one_new _ _ _) (by simp [Value.oneCell']) (by unfold maxLen; omega) (by omega) (by simp; omega) ?_; intro v' w1 hown1 hgrow1 _; have HO3 := Lib.hid (show OwnI w1 w.heap.size v' (swL (j + 1) j k) by unfold OwnI; rw [HSU.out, vals_snoc, List.length_append]; exact hown1); have HB3 := Lib.hid ((HBW.out.alloc hsr _).grown hgrow1 (by simp; omega) (fun q hq => (World.ownsRow.lt HOW.out q hq).1)); clear hown1 hgrow1)
        go_roundw
        case rel => exact ⟨j + 1, by omega, by go_num, HO3.out, HB3.out⟩
        case measure => simp [intOf]; omega
      · have t1 : ((j : Int) == (h : Int)) = false := by simp; omega
        have t1' : ¬ (j : Int) = (h : Int) := by omega
        by_cases e2 : j = k
        · have HSU := Lib.hid (show swL (j + 1) h k = swL j h k ++ [(h : Int)] by rw [swL_succ, swAt_k e1 e2])
          subst e2
          have t2 : ((j : Int) == (j : Int)) = true := by simp
          go_wp2_with (at_builtin; refine wpList_append_own _ rfl _ _ 26 rfl w.heap.size 2 i0 (.int .i64 0) 1 8 Tryd.underlying26 hi hz0 hz1 hz2 rfl (by decide) _ _ _ rfl (World.ownsRow.alloc HOW.out _) ⟨wr.heap.size, 0, none⟩ 1 1 [.int .i64 (h : Int)] rfl rfl (cell_one_new _ _ _) (by simp [Value.oneCell']) (by unfold maxLen; omega) (by omega) (by simp; omega) ?_; intro v' w1 hown1 hgrow1 _; have HO3 := Lib.hid (show OwnI w1 w.heap.size v' (swL (j + 1) h j) by unfold OwnI; rw [HSU.out, vals_snoc, List.length_append]; exact hown1); have HB3 := Lib.hid ((HBW.out.alloc hsr _).grown hgrow1 (by simp; omega) (fun q hq => (World.ownsRow.lt HOW.out q hq).1)); clear hown1 hgrow1)
          go_roundw
          case rel => exact ⟨j + 1, by omega, by go_num, HO3.out, HB3.out⟩
          case measure => simp [intOf]; omega
        · have HSU := Lib.hid (show swL (j + 1) h k = swL j h k ++ [(j : Int)] by rw [swL_succ, swAt_o e1 e2])
          have t2 : ((j : Int) == (k : Int)) = false := by simp; omega
          have t2' : ¬ (j : Int) = (k : Int) := by omega
          go_wp2_with (at_builtin; refine wpList_append_own _ rfl _ _ 26 rfl w.heap.size 2 i0 (.int .i64 0) 1 8 Tryd.underlying26 hi hz0 hz1 hz2 rfl (by decide) _ _ _ rfl (World.ownsRow.alloc HOW.out _) ⟨wr.heap.size, 0, none⟩ 1 1 [.int .i64 (j : Int)] rfl rfl (cell_one_new _ _ _) (by simp [Value.oneCell']) (by unfold maxLen; omega) (by omega) (by simp; omega) ?_; intro v' w1 hown1 hgrow1 _; have HO3 := Lib.hid (show OwnI w1 w.heap.size v' (swL (j + 1) h k) by unfold OwnI; rw [HSU.out, vals_snoc, List.length_append]; exact hown1); have HB3 := Lib.hid ((HBW.out.alloc hsr _).grown hgrow1 (by simp; omega) (fun q hq => (World.ownsRow.lt HOW.out q hq).1)); clear hown1 hgrow1)
          go_roundw
          case rel => exact ⟨j + 1, by omega, by go_num, HO3.out, HB3.out⟩
          case measure => simp [intOf]; omega
    · have hE : j = m := by omega
      have hji : ¬ (j : Int) < (m : Int) := by omega
      have hO := HOW.out
      rw [hE] at hO hlj
      obtain ⟨va, vc, hv⟩ := OwnI.form hO
      rw [hlj] at hv
      subst hv
      have HV := Lib.hid (ints_of_ownA hO)
      have p1 := (hbel.cell (p := ⟨fb, 1, none⟩) hfb).trans HX.out.2
      have HRW := Lib.hid (HROWS.out.below HBW.out (Nat.le_refl _))
      have HXW := Lib.hid (show FamBox wr fb (m : Nat) a zss.length c from ⟨p0, p1⟩)
      have HOR := Lib.hid (swL_ord (m := m) hh hk)
      have HLJ := Lib.hid hlj
      clear hO hown2 hbel hlj
      go_wp2_with fail
      have MK := Lib.hid (show ∀ w' : World, Below wr.heap.size wr w' → Below wr.heap.size wr w' ∧ w'.cell? ⟨fb, 0, none⟩ = some (.int .i64 (m : Nat)) ∧ w'.cell? ⟨fb, 1, none⟩ = some (.slice a zss.length c) from fun w' hw => ⟨hw, cell_step hw HXW.out.1, cell_step hw HXW.out.2⟩)
      go_region_held3 (fun w' => Below wr.heap.size wr w' ∧ w'.cell? ⟨fb, 0, none⟩ = some (.int .i64 (m : Nat)) ∧ w'.cell? ⟨fb, 1, none⟩ = some (.slice a zss.length c)) (first | exact MK.out _ (drew_step _) | exact MK.out _ HB5.out | exact MK.out _ HB6.out | fail) (first
        | (go_at_call 79; refine (show Calls _ _ _ _ _ from by have h9 := l01Renamed_any m fb a zss c va (swL m h k) vc _ (HXW.out.below (drew_step wr) (Nat.le_refl _)) (HRW.out.step (drew_step _)) HL.out (HV.out.step (drew_step _)) HFO.out HOR.out; rw [HLJ.out] at h9; exact h9).mono ?_; rintro e w5 ⟨⟨ra, rc, rfl, hrf, hrl⟩, hb⟩; have HB5 := Lib.hid (show Below wr.heap.size wr w5 from (drew_step wr).trans hb); have HR5 := Lib.hid hrf.rows; have HL5 := Lib.hid hrl; clear hb hrf hrl)
        | (go_at_call 78; refine (specSame_any _ _ a ra zss _ c rc w5 (HRW.out.step HB5.out) HR5.out HL.out HL5.out).mono ?_; rintro e w6 ⟨rfl, hb⟩; have HB6 := Lib.hid (show Below wr.heap.size wr w6 from HB5.out.trans (hb.mono HB5.out.size)); clear hb))
      all_goals (
        rw [HIS.out]
        go_wp2_with fail
        go_ret
        exact ⟨rfl, HBW.out.trans (HB6.out.mono HBW.out.size)⟩)

theorem specAl_one {q : Nat → Bool} {m h k : Nat} (hall : ∀ l, l < k → alikeB q m l h = false) (hp : k = h ∨ alikeB q m k h = true) (hk : k ≤ h) : firstOf (fun l => alikeB q m l h) h = k := firstOf_is hk hall hp
theorem alN_nonneg (q : Nat → Bool) (m : Nat) : ∀ h, ∀ z ∈ (alN q m h).1, 0 ≤ z
  | 0, z, hz => by cases hz
  | h + 1, z, hz => by
    unfold alN at hz
    split at hz
    · rename_i hlt
      rcases List.mem_append.1 hz with h1 | h1
      · exact alN_nonneg q m h z h1
      · obtain rfl := List.mem_singleton.1 h1
        rw [nth_lt (by rw [alN_len]; exact hlt)]
        exact alN_nonneg q m h _ (List.getElem_mem _)
    · rcases List.mem_append.1 hz with h1 | h1
      · exact alN_nonneg q m h z h1
      · obtain rfl := List.mem_singleton.1 h1
        omega

set_option maxHeartbeats 4000000 in
set_option maxRecDepth 100000 in
theorem specAl_any (h : Int) (a : Option Addr) (zss : List (List Int)) (c : Nat) (w : World) (hr : Rows2 w a zss) (hl : Lens zss) :
    Calls Tryd.prog 9 #[.agg #[.int .i64 h, .slice a zss.length c]] w (GivesIntsCode w (alOf h zss) (okCode h zss)) := by
  have hb1 := (Below.refl w.heap.size w).alloc (Nat.le_refl _) (.cells #[.int .i64 h, .slice a zss.length c] 29)
  have hbox : FamBox (w.alloc (.cells #[.int .i64 h, .slice a zss.length c] 29)) w.heap.size h a zss.length c := ⟨by simp, by simp⟩
  have hR1 := Lib.hid (hr.step hb1)
  have HX := Lib.hid hbox
  have HL := Lib.hid hl
  have HB := Lib.hid hb1
  obtain ⟨i0, hi, hz0, hz1, hz2⟩ := info_parts Tryd.infoInt64
  clear hr hl hbox hb1
  cases hf : tell (FamOk h zss) with
  | false =>
    have HF := Lib.hid hf
    clear hf
    go_enter Tryd.func9, Tryd.ntmps9
    go_wp2_with fail
    refine (l01Ok_any w.heap.size h a zss c _ HX.out hR1.out HL.out).mono ?_
    generalize w.alloc (.cells #[.int .i64 h, .slice a zss.length c] 29) = w1 at *
    rintro e w' ⟨rfl, hq⟩
    rw [HF.out]
    have HB2 := Lib.hid (chain HB.out (quiet_below hq))
    have hsz := HB2.out.size
    clear hq
    go_wp2_with fail
    go_ret2
    refine ⟨⟨_, by rw [okCode, HF.out]; rfl, ?_⟩, HB2.out.alloc hsz _⟩
    rw [alOf, HF.out]
    exact World.ownsRow_made w' #[] 0 hsz (by unfold maxLen; omega) rfl
  | true =>
    have HFO := Lib.hid (of_tell hf)
    have HF := Lib.hid hf
    have hh1 : 1 ≤ h := HFO.out.1.1
    have hh7 : h ≤ 7 := HFO.out.1.2
    clear hf
    obtain ⟨m, rfl⟩ : ∃ m : Nat, h = (m : Int) := ⟨h.toNat, by omega⟩
    have m1 : 1 ≤ m := by omega
    have m7 : m ≤ 7 := by omega
    have HV := Lib.hid (show alOf (m : Int) zss = (alN (tabOf (m : Int) zss) m m).1 by rw [alOf, HF.out, Int.toNat_natCast]; rfl)
    have HC0 := Lib.hid (show okCode (m : Int) zss = 0 by rw [okCode, HF.out]; rfl)
    go_enter Tryd.func9, Tryd.ntmps9
    go_wp2_with fail
    refine (l01Ok_any w.heap.size (m : Int) a zss c _ HX.out hR1.out HL.out).mono ?_
    generalize w.alloc (.cells #[.int .i64 (m : Int), .slice a zss.length c] 29) = w1 at *
    rintro e w2 ⟨rfl, hq⟩
    rw [HF.out]
    have HB2 := Lib.hid (chain HB.out (quiet_below hq))
    have HR2 := Lib.hid (hR1.out.quiet hq)
    have HX2 := Lib.hid (HX.out.quiet hq)
    have hqlt : w.heap.size < w2.heap.size := World.block_lt_of_cell? _ _ HX2.out.1
    clear hq
    go_wp2_with fail
    have hown : OwnI (w2.alloc (.cells #[] 2)) w2.heap.size (.slice (some ⟨w2.heap.size, 0, none⟩) 0 0) [] := World.ownsRow_made w2 #[] 0 (Nat.le_refl _) (by unfold maxLen; omega) rfl
    have hb1 := (Below.refl w2.heap.size w2).alloc (Nat.le_refl _) (.cells #[] 2)
    generalize (Value.slice (some ⟨w2.heap.size, 0, none⟩) 0 0) = v0 at *
    generalize w2.alloc (.cells #[] 2) = w3 at *
    obtain ⟨B, hB⟩ : ∃ B, w2.heap.size = B := ⟨_, rfl⟩
    rw [hB] at hown hb1 hqlt
    have HBB := Lib.hid hB
    clear hB
    generalize hq9 : tabOf (m : Int) zss = q at *
    have HQ9 := Lib.hid hq9
    clear hq9
    go_loopw [4, 5, 6] (fun v u i wr => ∃ h : Nat, h ≤ m ∧ i = .int .i64 h ∧ u = .int .i64 ((alN q m h).2 : Nat) ∧ OwnI wr B v (alN q m h).1 ∧ Below B w2 wr)
      (fun _ _ i _ => m - (intOf i).toNat)
    case atStart => exact ⟨0, Nat.zero_le _, rfl, rfl, hown, hb1⟩
    case round =>
      obtain ⟨h, hh, rfl, rfl, hown2, hbel⟩ := hrel
      have hlen := alN_len q m h
      have hun := alN_le q m h
      obtain ⟨L, hL⟩ : ∃ L, (alN q m h).1 = L := ⟨_, rfl⟩
      obtain ⟨U, hU⟩ : ∃ U, (alN q m h).2 = U := ⟨_, rfl⟩
      have HNN := Lib.hid (show ∀ z ∈ L, 0 ≤ z by rw [← hL]; exact alN_nonneg q m h)
      rw [hL] at hown2 hlen
      rw [hU] at hun ⊢
      have HL9 := Lib.hid hL
      have HU9 := Lib.hid hU
      have HLN := Lib.hid hlen
      have HOW := Lib.hid hown2
      have HBW := Lib.hid hbel
      have hsr : B ≤ wr.heap.size := by have := hbel.size; have := HBB.out; omega
      have hbw2 : Below w2.heap.size w2 wr := by rw [HBB.out]; exact hbel
      have HRW := Lib.hid (HR2.out.step hbw2)
      have HXW := Lib.hid (HX2.out.below hbw2 (Nat.le_refl _))
      have p0 := HXW.out.1
      clear hown hb1 hL hU hbw2
      by_cases hlt : h < m
      · have hi0 : (h : Int) < (m : Int) := by omega
        obtain ⟨va, vc, hv⟩ := OwnI.form hown2
        rw [hlen] at hv
        subst hv
        clear hown2 hbel hlen
        go_wp2_with fail
        obtain ⟨wo, rfl⟩ : ∃ wo : World, wo = wr := ⟨_, rfl⟩
        go_loopw [7, 8] (fun o k wi => ∃ j : Nat, j ≤ h ∧ k = .int .i64 (j : Nat) ∧ ((o = .int .i64 (-1) ∧ ∀ l, l < j → alikeB q m l h = false) ∨ (∃ t : Nat, t < h ∧ j = t + 1 ∧ o = .int .i64 (nth L t) ∧ firstOf (fun l => alikeB q m l h) h = t)) ∧ Below wo.heap.size wo wi)
          (fun _ k _ => h - (intOf k).toNat)
        case atStart => exact ⟨0, Nat.zero_le _, rfl, .inl ⟨rfl, fun l hl => absurd hl (Nat.not_lt_zero _)⟩, Below.refl _ _⟩
        case round =>
          obtain ⟨j, hj, rfl, hcase, hbi⟩ := hrel
          have HBI := Lib.hid hbi
          have hsi := hbi.size
          clear hbi
          rcases hcase with ⟨rfl, hall⟩ | ⟨t, ht, hjt, rfl, hft⟩
          · have HALL := Lib.hid hall
            clear hall
            by_cases hjh : j < h
            · have hj0 : (j : Int) < (h : Int) := by omega
              go_wp2_with fail
              refine (l01Swapped_any m w.heap.size a zss c h j wr (HXW.out.below HBI.out (Nat.le_refl _)) (HRW.out.step HBI.out) HL.out HFO.out hlt (by omega)).mono ?_
              rintro e w5 ⟨rfl, hb5⟩
              have HB5 := Lib.hid (chain HBI.out hb5)
              clear hb5
              rw [HQ9.out]
              cases hal : alikeB q m j h with
              | false =>
                have HAF := Lib.hid hal
                clear hal
                go_wp2_with fail
                go_roundw
                case rel => exact ⟨j + 1, by omega, by go_num, .inl ⟨rfl, fun l hl => by
                  by_cases e : l = j
                  · subst e; exact HAF.out
                  · exact HALL.out l (by omega)⟩, HB5.out⟩
                case measure => simp [intOf]; omega
              | true =>
                have HST := Lib.hid (firstOf_is (p := fun l => alikeB q m l h) hj HALL.out (.inr hal))
                have hrow5 := HOW.out.step HB5.out
                obtain ⟨g, hg, hc⟩ := row_cell (show w5.ownsRow B 2 1 (.slice va h vc) h (vals L) from by have h9 := hrow5; unfold OwnI at h9; rw [HLN.out] at h9; exact h9) hjh
                subst hg
                rw [vals_atA L (by rw [HLN.out]; exact hjh)] at hc
                clear hal hrow5
                go_wp2_with fail
                go_roundw
                case rel => exact ⟨j + 1, by omega, by go_num, .inr ⟨j, hjh, rfl, rfl, HST.out⟩, HB5.out⟩
                case measure => simp [intOf]; omega
            · have hE : j = h := by omega
              subst hE
              have hj0 : ¬ (j : Int) < (j : Int) := by omega
              have HST := Lib.hid (alN_new (firstOf_is (p := fun l => alikeB q m l j) (Nat.le_refl j) HALL.out (.inl rfl)))
              have HRW5 := Lib.hid (show wr.ownsRow B 2 1 (.slice va j vc) j (vals L) from by have h9 := HOW.out.step HBI.out; unfold OwnI at h9; rw [HLN.out] at h9; exact h9)
              go_wp2_with (at_builtin; refine wpList_append_own _ rfl _ _ 26 rfl B 2 i0 (.int .i64 0) 1 8 Tryd.underlying26 hi hz0 hz1 hz2 rfl (by decide) _ _ _ rfl (World.ownsRow.alloc HRW5.out _) ⟨wr.heap.size, 0, none⟩ 1 1 [.int .i64 (U : Int)] rfl rfl (cell_one_new _ _ _) (by simp [Value.oneCell']) (by unfold maxLen; omega) (by omega) (by simp; omega) ?_; intro v' w6 hown6 hgrow6 _; have HO6 := Lib.hid (show OwnI w6 B v' (alN q m (j + 1)).1 by unfold OwnI; rw [HST.out]; show w6.ownsRow B _ 1 v' ((alN q m j).1 ++ [(((alN q m j).2 : Nat) : Int)]).length (vals ((alN q m j).1 ++ [(((alN q m j).2 : Nat) : Int)])); rw [HL9.out, HU9.out, vals_snoc, List.length_append, HLN.out]; exact hown6); have HB6 := Lib.hid (((HBW.out.trans (HBI.out.mono hsr)).alloc (by omega) _).grown hgrow6 (by simp; omega) (fun q hq => (World.ownsRow.lt HRW5.out q hq).1)); clear hown6 hgrow6)
              go_roundw
              case rel => exact ⟨j + 1, by omega, by go_num, by rw [HST.out]; show _ = Value.int .i64 (((alN q m j).2 + 1 : Nat) : Int); rw [HU9.out]; go_num, HO6.out, HB6.out⟩
              case measure => simp [intOf]; omega
          · have HFT := Lib.hid hft
            have hnn : 0 ≤ nth L t := HNN.out _ (by rw [nth_lt (by rw [HLN.out]; exact ht)]; exact List.getElem_mem _)
            have HST := Lib.hid (alN_old ht hft)
            have HJT := Lib.hid hjt
            obtain ⟨o, ho⟩ : ∃ o, nth L t = o := ⟨_, rfl⟩
            rw [ho] at hnn ⊢
            have HOO := Lib.hid ho
            have ho0 : ¬ o < 0 := by omega
            clear hft hjt ho
            have HRW5 := Lib.hid (show wr.ownsRow B 2 1 (.slice va h vc) h (vals L) from by have h9 := HOW.out.step HBI.out; unfold OwnI at h9; rw [HLN.out] at h9; exact h9)
            have HVAL := Lib.hid (show ∀ (w6 : World) (v' : Value), w6.ownsRow B 2 1 v' (h + 1) (vals L ++ [.int .i64 o]) → OwnI w6 B v' (alN q m (h + 1)).1 from fun w6 v' h9 => by unfold OwnI; rw [HST.out]; show w6.ownsRow B _ 1 v' ((alN q m h).1 ++ [nth (alN q m h).1 t]).length (vals ((alN q m h).1 ++ [nth (alN q m h).1 t])); rw [HL9.out, HOO.out, vals_snoc, List.length_append, HLN.out]; exact h9)
            have HUU := Lib.hid (show (alN q m (h + 1)).2 = U by rw [HST.out]; exact HU9.out)
            by_cases hjh : j < h
            · have hj0 : (j : Int) < (h : Int) := by omega
              go_wp2_with (at_builtin; refine wpList_append_own _ rfl _ _ 26 rfl B 2 i0 (.int .i64 0) 1 8 Tryd.underlying26 hi hz0 hz1 hz2 rfl (by decide) _ _ _ rfl (World.ownsRow.alloc HRW5.out _) ⟨wr.heap.size, 0, none⟩ 1 1 [.int .i64 o] rfl rfl (cell_one_new _ _ _) (by simp [Value.oneCell']) (by unfold maxLen; omega) (by omega) (by simp; omega) ?_; intro v' w6 hown6 hgrow6 _; have HO6 := Lib.hid (HVAL.out _ _ hown6); have HB6 := Lib.hid (((HBW.out.trans (HBI.out.mono hsr)).alloc (by omega) _).grown hgrow6 (by simp; omega) (fun q hq => (World.ownsRow.lt HRW5.out q hq).1)); clear hown6 hgrow6)
              go_roundw
              case rel => exact ⟨h + 1, by omega, by go_num, by rw [HUU.out], HO6.out, HB6.out⟩
              case measure => simp [intOf]; omega
            · have hj0 : ¬ (j : Int) < (h : Int) := by omega
              go_wp2_with (at_builtin; refine wpList_append_own _ rfl _ _ 26 rfl B 2 i0 (.int .i64 0) 1 8 Tryd.underlying26 hi hz0 hz1 hz2 rfl (by decide) _ _ _ rfl (World.ownsRow.alloc HRW5.out _) ⟨wr.heap.size, 0, none⟩ 1 1 [.int .i64 o] rfl rfl (cell_one_new _ _ _) (by simp [Value.oneCell']) (by unfold maxLen; omega) (by omega) (by simp; omega) ?_; intro v' w6 hown6 hgrow6 _; have HO6 := Lib.hid (HVAL.out _ _ hown6); have HB6 := Lib.hid (((HBW.out.trans (HBI.out.mono hsr)).alloc (by omega) _).grown hgrow6 (by simp; omega) (fun q hq => (World.ownsRow.lt HRW5.out q hq).1)); clear hown6 hgrow6)
              go_roundw
              case rel => exact ⟨h + 1, by omega, by go_num, by rw [HUU.out], HO6.out, HB6.out⟩
              case measure => simp [intOf]; omega
      · have hE : h = m := by omega
        have hi0 : ¬ (h : Int) < (m : Int) := by omega
        have HO9 := Lib.hid hown2
        subst hE
        clear hown2 hbel
        go_wp2_with fail
        go_ret2
        exact ⟨⟨_, by rw [HC0.out]; rfl, by rw [HV.out, HL9.out]; exact HO9.out.mono (by omega)⟩, HB2.out.trans (HBW.out.mono (by omega))⟩
theorem alOf_len (h : Int) (zss : List (List Int)) : (alOf h zss).length ≤ 1048576 := by
  unfold alOf
  split
  · rename_i k
    have := (of_tell k).1
    rw [alN_len]; omega
  · simp
end Go.Proofs.YtnebkhelobpkpaaDoor

namespace Go.Proofs.YtnebkhelobpkpaaDoor
open Go.ChangeShapes Go.WideShapes Go.ChangeAt Go.RowKit Go.Deep
set_option linter.unusedVariables false
namespace Alike

/-- What is carried over the second half. -/
structure Carry (v4 : World) (g0 : Nat) (z0 : List (List Int)) (px0 : Nat) (h0 : Int) (bs : Nat) (ag : Option Addr) (cg : Nat) (rl : List Int) (W : World) : Prop where
  e : Below v4.heap.size v4 W
  x0 : Own2 W g0 z0
  b0 : Boxes W px0 29 #[.int .i64 h0, .slice (some ⟨g0, 0, none⟩) z0.length z0.length]
  g : OwnI W bs (.slice ag rl.length cg) rl

theorem Carry.step {v4 : World} {g0 : Nat} {z0 : List (List Int)} {px0 : Nat} {h0 : Int} {bs : Nat} {ag : Option Addr} {cg : Nat} {rl : List Int} {W W' : World} (hb : Below W.heap.size W W') (k : Carry v4 g0 z0 px0 h0 bs ag cg rl W) : Carry v4 g0 z0 px0 h0 bs ag cg rl W' := ⟨chain k.e hb, k.x0.step hb, k.b0.step hb, k.g.step hb⟩
theorem keep4 {w w' : World} {p1 p2 p3 p4 : Addr} {u1 u2 u3 u4 : Value} {C : World → Prop} (hb : Below w.heap.size w w') (hC : C w → C w') (h : w.cell? p1 = some u1 ∧ w.cell? p2 = some u2 ∧ w.cell? p3 = some u3 ∧ w.cell? p4 = some u4 ∧ C w) : w'.cell? p1 = some u1 ∧ w'.cell? p2 = some u2 ∧ w'.cell? p3 = some u3 ∧ w'.cell? p4 = some u4 ∧ C w' :=
  ⟨cell_step hb h.1, cell_step hb h.2.1, cell_step hb h.2.2.1, cell_step hb h.2.2.2.1, hC h.2.2.2.2⟩

set_option maxHeartbeats 4000000 in
set_option maxRecDepth 100000 in
theorem law_of (h0 : Int) (a0 : Option Addr) (z0 : List (List Int)) (c0 : Nat) (rl : List Int) (rc : Int) (w : World) (hr0 : Rows2 w a0 z0) (hl0 : Lens z0) (wfh0 : (Lit.int .i64 h0).wf = true)
    
    (hS : ∀ (b0 : Option Addr) (d0 : Nat) (W : World), Rows2 W b0 z0 → Small2 z0 → Calls Tryd.prog 9 #[.agg #[.int .i64 h0, .slice b0 z0.length d0]] W (GivesIntsCode W rl rc))
    (hI : ∀ (b0 : Option Addr) (d0 : Nat) (W : World), Rows2 W b0 z0 → Small2 z0 → Calls Tryd.prog 11 #[.agg #[.int .i64 h0, .slice b0 z0.length d0]] W (GivesIntsCode W rl rc))
    (hsm : rl.length ≤ 1048576) :
    Calls Tryd.prog 3 #[.agg #[.int .i64 h0, .slice a0 z0.length c0]] w fun e w' => e = .returned (.bool true) ∧ Below w.heap.size w w' := by
  have HSP := Lib.hid hS
  have HIM := Lib.hid hI
  clear hS hI
  have D := Lib.hid (Below.refl w.heap.size w)
  have R0 := Lib.hid hr0
  clear hr0
  have L0 := Lib.hid hl0
  clear hl0
  go_enter Tryd.func3, Tryd.ntmps3
  go_wp2_with fail
  have hb := (Below.refl (w).heap.size (w)).alloc (Nat.le_refl _) (.cells #[.int .i64 h0, .slice a0 z0.length c0] 24)
  have ha0 : Boxes ((w).alloc (.cells #[.int .i64 h0, .slice a0 z0.length c0] 24)) (w).heap.size 24 #[.int .i64 h0, .slice a0 z0.length c0] := World.alloc_heap_new _ _
  replace D := Lib.hid (chain D.out hb)
  replace R0 := Lib.hid (R0.out.step hb)
  clear hb
  skip
  generalize hv1 : (w).alloc (.cells #[.int .i64 h0, .slice a0 z0.length c0] 24) = v1 at *
  have B0 := Lib.hid ha0
  clear ha0
  clear hv1
  refine (szFamily_any h0 a0 z0 c0 1048576 _ R0.out (by omega) (by omega) L0.out.1 L0.out.2).mono ?_
  rintro e w1 ⟨⟨u0, hu0, rfl⟩, hb⟩
  replace D := Lib.hid (chain D.out hb)
  replace R0 := Lib.hid (R0.out.step hb)
  replace B0 := Lib.hid (B0.out.step hb)
  clear hb
  rcases hu0 with rfl | ⟨hu00, hu01, hsm0⟩
  · go_wp2_with fail
    go_ret
    exact ⟨rfl, D.out⟩
  have S0 := Lib.hid hsm0
  have hz0 : z0.length ≤ 1048576 := hsm0.1
  clear hsm0
  have B0c0 := (B0.out).c0
  have B0c1 := (B0.out).c1
  have B0lt := (B0.out).lt
  go_wp2_with fail
  clear B0c0 B0c1 B0lt
  refine (toFamily_any h0 a0 z0 c0 _ R0.out S0.out).mono ?_
  rintro e w2 ⟨rfl, hz, hrow, hb⟩
  replace D := Lib.hid (chain D.out hb)
  replace R0 := Lib.hid (R0.out.step hb)
  replace B0 := Lib.hid (B0.out.step hb)
  have M0 := Lib.hid (hrow.rows)
  clear hb hrow hz
  have B0c0 := (B0.out).c0
  have B0c1 := (B0.out).c1
  have B0lt := (B0.out).lt
  go_wp2_with fail
  clear B0c0 B0c1 B0lt
  refine (HSP.out _ _ _ M0.out S0.out).mono ?_
  rintro e w3 ⟨⟨v0, rfl, hv⟩, hb⟩
  obtain ⟨a, c, rfl, hw0, _⟩ := hv.ints
  replace D := Lib.hid (chain D.out hb)
  replace R0 := Lib.hid (R0.out.step hb)
  replace B0 := Lib.hid (B0.out.step hb)
  have W0 := Lib.hid hw0
  clear hb hw0 hv M0
  have B0c0 := (B0.out).c0
  have B0c1 := (B0.out).c1
  have B0lt := (B0.out).lt
  go_wp2_with fail
  clear B0c0 B0c1 B0lt
  generalize w3 = v4 at *
  have E := Lib.hid (Below.refl v4.heap.size v4)
  refine (toFamily_any h0 a0 z0 c0 _ (R0.out.step E.out) S0.out).mono ?_
  rintro e w4 ⟨rfl, hz, hrow, hb⟩
  obtain ⟨g0, hg0⟩ : ∃ g, v4.heap.size + 3 = g := ⟨_, rfl⟩
  rw [hg0] at hrow ⊢
  have hlo : v4.heap.size ≤ g0 := by omega
  replace E := Lib.hid (chain E.out hb)
  have X0 := Lib.hid hrow
  have G0 := Lib.hid (show v4.heap.size ≤ g0 ∧ g0 + 1 + z0.length ≤ w4.heap.size from ⟨hlo, by omega⟩)
  clear hb hrow hz hg0 hlo
  have B0c0 := (B0.out.step E.out).c0
  have B0c1 := (B0.out.step E.out).c1
  have B0lt := (B0.out.step E.out).lt
  go_wp2_with fail
  clear B0c0 B0c1 B0lt
  have hsz : w4.heap.size ≤ (w4.alloc (.cells #[.int .i64 h0, .slice (some ⟨g0, 0, none⟩) z0.length z0.length] 29)).heap.size := by simp
  replace G0 := Lib.hid (show v4.heap.size ≤ g0 ∧ g0 + 1 + z0.length ≤ (w4.alloc (.cells #[.int .i64 h0, .slice (some ⟨g0, 0, none⟩) z0.length z0.length] 29)).heap.size from ⟨G0.out.1, Nat.le_trans G0.out.2 hsz⟩)
  have HPX0 := Lib.hid (show v4.heap.size ≤ w4.heap.size from E.out.size)
  clear hsz
  have hb := (Below.refl w4.heap.size w4).alloc (Nat.le_refl _) (.cells #[.int .i64 h0, .slice (some ⟨g0, 0, none⟩) z0.length z0.length] 29)
  have ha : Boxes (w4.alloc (.cells #[.int .i64 h0, .slice (some ⟨g0, 0, none⟩) z0.length z0.length] 29)) w4.heap.size 29 #[.int .i64 h0, .slice (some ⟨g0, 0, none⟩) z0.length z0.length] := World.alloc_heap_new w4 _
  generalize w4.alloc (.cells #[.int .i64 h0, .slice (some ⟨g0, 0, none⟩) z0.length z0.length] 29) = y0 at *
  replace E := Lib.hid (chain E.out hb)
  replace X0 := Lib.hid (X0.out.step hb)
  have PX0 := Lib.hid ha
  clear hb ha
  generalize w4.heap.size = px0 at *
  refine (HIM.out _ _ y0 X0.out.rows S0.out).mono ?_
  rintro e w5 ⟨⟨vg, rfl, hown⟩, hb⟩
  obtain ⟨ag, cg, rfl⟩ := hown.form
  obtain ⟨bs, hbs⟩ : ∃ b, y0.heap.size = b := ⟨_, rfl⟩
  have HBS := Lib.hid (show v4.heap.size ≤ bs by have := G0.out; omega)
  have HQ := Lib.hid (show bs ≤ w5.heap.size by have := hb.size; omega)
  replace E := Lib.hid (chain E.out hb)
  replace X0 := Lib.hid (X0.out.step hb)
  replace PX0 := Lib.hid (PX0.out.step hb)
  rw [hbs] at hown
  rw [hbs] at G0
  have G := Lib.hid hown
  clear hb hown hbs
  have B0c0 := (B0.out.step E.out).c0
  have B0c1 := (B0.out.step E.out).c1
  have B0lt := (B0.out.step E.out).lt
  have PX0c0 := (PX0.out).c0
  have PX0c1 := (PX0.out).c1
  have PX0lt := (PX0.out).lt
  go_wp2_with fail
  clear B0c0 B0c1 B0lt PX0c0 PX0c1 PX0lt
  refine (eqInt64S_same ag a rl cg c _ (Ints_of_own G.out) (W0.out.step E.out) (by omega)).mono ?_
  rintro e w6 ⟨rfl, hq⟩
  have hb := quiet_below hq
  clear hq
  replace E := Lib.hid (chain E.out hb)
  replace X0 := Lib.hid (X0.out.step hb)
  replace PX0 := Lib.hid (PX0.out.step hb)
  replace G := Lib.hid (G.out.step hb)
  clear hb
  have K : Carry v4 g0 z0 px0 h0 bs ag cg rl _ := ⟨E.out, X0.out, PX0.out, G.out⟩
  have B0c0 := (B0.out.step E.out).c0
  have B0c1 := (B0.out.step E.out).c1
  have B0lt := (B0.out.step E.out).lt
  have PX0c0 := (PX0.out).c0
  have PX0c1 := (PX0.out).c1
  have PX0lt := (PX0.out).lt
  go_wp2_with fail
  go_region_held3 (fun w' => w'.cell? ⟨w.heap.size, 0, none⟩ = some (.int .i64 h0) ∧ w'.cell? ⟨w.heap.size, 1, none⟩ = some (.slice a0 z0.length c0) ∧ w'.cell? ⟨px0, 0, none⟩ = some (.int .i64 h0) ∧ w'.cell? ⟨px0, 1, none⟩ = some (.slice (some ⟨g0, 0, none⟩) z0.length z0.length) ∧ Carry v4 g0 z0 px0 h0 bs ag cg rl w') (first | exact ⟨cell_step (drew_step _) B0c0, cell_step (drew_step _) B0c1, cell_step (drew_step _) PX0c0, cell_step (drew_step _) PX0c1, K.step (drew_step _)⟩ | exact keep4 hb (fun k => k.step hb) (by assumption)) (first | (go_at_call 10; obtain ⟨_, _, _, _, KK⟩ := ‹_ ∧ _ ∧ _ ∧ _ ∧ Carry v4 g0 z0 px0 h0 bs ag cg rl _›; refine (toFamily_any h0 a0 z0 c0 _ (R0.out.step KK.e) S0.out).mono ?_; rintro e wf ⟨rfl, -, hof, hb⟩; have hx1 := KK.x0.step hb; clear KK) | (go_at_call 13; refine (eqFamily_same h0 _ _ z0 _ _ _ hx1.rows hof.rows S0.out.lens.1 S0.out.lens.2).mono ?_; rintro e w9 ⟨rfl, hb⟩))
  clear B0c0 B0c1 B0lt PX0c0 PX0c1 PX0lt K hb hx1 hof
  obtain ⟨-, -, -, -, K⟩ := ‹_ ∧ _ ∧ _ ∧ _ ∧ Carry v4 g0 z0 px0 h0 bs ag cg rl _›
  replace E := Lib.hid K.e
  replace X0 := Lib.hid K.x0
  replace PX0 := Lib.hid K.b0
  replace G := Lib.hid K.g
  clear K
  have B0c0 := (B0.out.step E.out).c0
  have B0c1 := (B0.out.step E.out).c1
  have B0lt := (B0.out.step E.out).lt
  have PX0c0 := (PX0.out).c0
  have PX0c1 := (PX0.out).c1
  have PX0lt := (PX0.out).lt
  go_wp2_with fail
  clear B0c0 B0c1 B0lt PX0c0 PX0c1 PX0lt
  refine (markFamily_any h0 g0 _ z0 1 _ X0.out S0.out (by omega) (by omega)).mono ?_
  rintro e w7 ⟨⟨k0, hk0, rfl⟩, ht⟩
  have hgl := Nat.le_of_lt X0.out.top.lt
  replace E := Lib.hid (E.out.trans (ht.below G0.out.1 hgl))
  have hhi : g0 + 1 + z0.length ≤ bs := by have := G0.out.2; omega
  replace G := Lib.hid (ht.own G.out hhi)
  clear ht hgl hhi
  clear X0
  clear PX0
  go_wp2_with fail
  refine (eqInt64S_same ag a rl cg c _ (Ints_of_own G.out) (W0.out.step E.out) (by omega)).mono ?_
  rintro e w8 ⟨rfl, hq⟩
  have hb := quiet_below hq
  clear hq
  replace E := Lib.hid (chain E.out hb)
  replace G := Lib.hid (G.out.step hb)
  clear hb
  go_wp2_with fail
  refine (markInt64S_any _ rl bs 1 _ G.out (by omega) (by omega) (by omega)).mono ?_
  rintro e w9 ⟨rfl, hown, hsz, hgr⟩
  replace E := Lib.hid (E.out.grown hgr E.out.size (fun q hq => Nat.le_trans HBS.out (G.out.lt hq).1))
  replace G := Lib.hid hown
  clear hown hsz hgr
  have t2 : ((1 : Int) + (rl.length : Int) != (1 : Int) + (rl.length : Int)) = false := by simp
  go_wp2_with fail
  refine (heldInt64S_any ag rl.length cg 1 _ (Ints_of_own G.out) (by omega) (by omega) (by omega)).mono ?_
  rintro e w10 ⟨rfl, rfl⟩
  have B0c0 := (B0.out.step E.out).c0
  have B0c1 := (B0.out.step E.out).c1
  have B0lt := (B0.out.step E.out).lt
  go_wp2_with fail
  clear B0c0 B0c1 B0lt
  refine (toFamily_any h0 a0 z0 c0 _ (R0.out.step E.out) S0.out).mono ?_
  rintro e w11 ⟨rfl, hz, hrow, hb⟩
  replace E := Lib.hid (chain E.out hb)
  replace G := Lib.hid (G.out.step hb)
  have M0 := Lib.hid (hrow.rows)
  clear hb hrow hz
  have B0c0 := (B0.out.step E.out).c0
  have B0c1 := (B0.out.step E.out).c1
  have B0lt := (B0.out.step E.out).lt
  go_wp2_with fail
  clear B0c0 B0c1 B0lt
  refine (HIM.out _ _ _ M0.out S0.out).mono ?_
  rintro e w12 ⟨⟨vh, rfl, hown⟩, hb⟩
  obtain ⟨ah, ch, rfl⟩ := hown.form
  replace E := Lib.hid (chain E.out hb)
  replace G := Lib.hid (G.out.step hb)
  have H := Lib.hid hown
  clear hb hown M0
  have B0c0 := (B0.out.step E.out).c0
  have B0c1 := (B0.out.step E.out).c1
  have B0lt := (B0.out.step E.out).lt
  go_wp2_with fail
  clear B0c0 B0c1 B0lt
  refine (eqInt64S_same ah a rl ch c _ (Ints_of_own H.out) (W0.out.step E.out) (by omega)).mono ?_
  rintro e w13 ⟨rfl, hq⟩
  have hb := quiet_below hq
  clear hq
  replace E := Lib.hid (chain E.out hb)
  replace G := Lib.hid (G.out.step hb)
  replace H := Lib.hid (H.out.step hb)
  clear hb
  clear H
  go_wp2_with fail
  refine (heldInt64S_any ag rl.length cg 1 _ (Ints_of_own G.out) (by omega) (by omega) (by omega)).mono ?_
  rintro e w14 ⟨rfl, rfl⟩
  go_wp2_with fail
  go_ret
  exact ⟨rfl, D.out.trans (E.out.mono D.out.size)⟩
end Alike
end Go.Proofs.YtnebkhelobpkpaaDoor

namespace Go.Proofs.YtnebkhelobpkpaaDoor
open Go.ChangeShapes Go.WideShapes Go.ChangeAt Go.RowKit Go.Deep
set_option linter.unusedVariables false
namespace Alike

theorem law (h0 : Int) (a0 : Option Addr) (z0 : List (List Int)) (c0 : Nat) (w : World) (hr0 : Rows2 w a0 z0) (hl0 : Lens z0) (wfh0 : (Lit.int .i64 h0).wf = true) :
    Calls Tryd.prog 3 #[.agg #[.int .i64 h0, .slice a0 z0.length c0]] w fun e w' => e = .returned (.bool true) ∧ Below w.heap.size w w' :=
  law_of h0 a0 z0 c0 (alOf h0 z0) (okCode h0 z0) w hr0 hl0 wfh0  (fun _ _ W r0 s0 => specAl_any h0 _ z0 _ W r0 s0.lens) (fun _ _ W r0 s0 => implAl_any h0 _ z0 _ W r0 s0) (alOf_len _ _)

theorem door_met (os : Os) (args : Array Value) : laidMetH Tryd.prog Rows.fnExactAlikeHoldersRow.laid ((World.doorLaid Tryd.prog 62 os).forCall (fun _ _ => 0) ⟨#[], args, []⟩).memory :=
  laidMetH_of_parts3 (fuel := 8) (laidMet_of_run' 8 (by kernel_rfl) (by kernel_rfl)) (by kernel_rfl) (by kernel_rfl)

set_option maxRecDepth 100000 in
set_option maxHeartbeats 100000000 in
theorem lifted (os : Os) (started : os.Started) (H : Type) (enc : TypeId × Value → H) :
    ReturnsInHanded {} Tryd.checked os 3 .any (fun w args => (Rows.fnExactAlikeHoldersSpec.pre enc Tryd.prog Tryd.f3 [] false w args ∧ laidMetH Tryd.prog Rows.fnExactAlikeHoldersRow.laid w) ∧ sizedMet enc Tryd.prog Tryd.f3 (OpenSpec.ofChange Rows.fnExactAlikeHoldersSpec) false w args)
      (Rows.fnExactAlikeHoldersSpec.post enc Tryd.prog Tryd.f3 false true false false) := by
  refine returnsInHanded_of_change_and (C := Tryd.checked) (X := fun w _ => laidMetH Tryd.prog Rows.fnExactAlikeHoldersRow.laid w) (fun _ _ _ hh h => h.of_heap hh) CardP.own started (by kernel_rfl) Tryd.func3
    (ChangeSpec.witness_shaped (enc := enc) (C := Tryd.checked) (os := os) (X := fun w _ => laidMetH Tryd.prog Rows.fnExactAlikeHoldersRow.laid w) false (World.doorLaid Tryd.prog 62 os) #[.agg #[.int .i64 0, .slice none 0 0]] 8 rfl (World.shaped_of_RefB (by kernel_rfl) (by kernel_rfl)) (by kernel_rfl) (by kernel_rfl) (by kernel_rfl) (door_met os _)) ?_
  intro W base args ds gs before hval0 hW _ _ hL _
  have hval : ∀ (j : Nat) t v, Tryd.f3.params[j]? = some t → args[j]? = some v → Value.okWide Tryd.prog W .any base t v := hval0
  have hW' := hW
  obtain ⟨p, q, hA0, hV, rfl, hfz, hnd⟩ := hW
  have hA : DataW.TrodAll enc Tryd.prog W 0 (fun _ => true) true Tryd.f3.params.toList args.toList ds p := hA0
  rw [Tryd.params3] at hA hval
  obtain ⟨v0, vs0, d0, ds0, p0, q0, hargs, rfl, rfl, h0, r0⟩ := trodAll_cons hA
  obtain ⟨rfl, rfl, rfl⟩ := trodAll_nil r0
  obtain rfl : args = #[v0] := by cases args; simp_all
  obtain ⟨rfl, rfl⟩ := trodVars_none hV
  have k0 := h0
  have lt0 : ∀ x ∈ p0, x.block < W.heap.size := by obtain ⟨m, hm⟩ := k0; exact DataW.trod_lt m _ _ _ hm
  obtain ⟨hh0, a0, z0, c0, rfl, rr0, ll0, wf0⟩ := open_fam (hval 0 24 v0 rfl rfl) h0
  clear hA0 hval0
  refine (law hh0 a0 z0 c0 W rr0 ll0 wf0).mono fun e W' ⟨he, bel⟩ => ?_
  subst he
  exact ⟨_, rfl, _, _, _, [], _, [], hW', trodAll_mk1 (shut_bool Tryd.underlying4 _), (trodAll_cons_mk (Below.trod CardP.laidOut (by kernel_rfl) (of_decide_eq_true (by kernel_rfl)) k0 bel lt0) trodAll_mk0), rfl, bel.frame _, fun h => by cases h⟩


end Alike
end Go.Proofs.YtnebkhelobpkpaaDoor

namespace Go.Proofs.YtnebkhelobpkpaaDoor
open Go.ChangeShapes Go.WideShapes Go.ChangeAt Go.RowKit Go.Deep
set_option linter.unusedVariables false
namespace Alike

theorem over : Rows.fnExactAlikeHoldersRow.holds Tryd.pinned (OpenSpec.ofChange Rows.fnExactAlikeHoldersSpec) :=
  OpenClaim.holds_of_wide 3 Tryd.f3 rfl rfl rfl rfl rfl rfl rfl ⟨rfl, rfl, rfl, rfl, rfl⟩ rfl rfl rfl rfl rfl (by kernel_rfl) Tryd.func3 closed
    (of_decide_eq_true (by kernel_rfl)) (by unfold Func.isWrapper; first | (rw [if_pos (by decide +kernel)]; kernel_rfl) | (rw [if_neg (by decide +kernel)]; exact ⟨rfl, rfl⟩))
    (fun os started H enc _ => lifted os started H enc)

theorem said : Rows.FnExactAlikeHoldersSaid := over

end Alike
end Go.Proofs.YtnebkhelobpkpaaDoor

namespace Go.Proofs.YtnebkhelobpkpaaDoor
open Go.ChangeShapes Go.WideShapes Go.ChangeAt Go.RowKit Go.Deep
set_option linter.unusedVariables false
namespace Alike

theorem plain (f : FuncId) (fn : Func) (hf : Tryd.pinned.checked.prog.funcNamed "loop.example/g01117/laws.FnExactAlikeHolders" = some f) (hfn : Tryd.pinned.checked.prog.funcs[f]? = some fn) :
    true = Tryd.pinned.checked.prog.looks [] ∧ ∀ (j : Nat) t, fn.params[j]? = some t → Tryd.pinned.checked.prog.wantsStandIn t = false := by
  obtain rfl : f = 3 := Option.some.inj (c_named.symm.trans hf) |>.symm
  obtain rfl : fn = Tryd.f3 := (Option.some.inj (Tryd.func3.symm.trans hfn)).symm
  refine ⟨CardP.looks, fun j t ht => ?_⟩
  rw [Tryd.params3] at ht
  have hm : t ∈ [24] := by simpa using Array.mem_of_getElem? ht
  have hall := c_stand
  exact (show Tryd.prog.wantsStandIn t = false by simpa using List.all_eq_true.1 hall t hm)

theorem card : Rows.FnExactAlikeHoldersCardSaid :=
  Claim7.holds_tied_plain_at .later [] _ _ _ _ said (fun _ h => by cases h) c_wf (fun _ h => by cases h) fnExactAlikeHolders_row_tie rfl ⟨rfl, rfl⟩ c_main rfl plain c_goes

end Alike
end Go.Proofs.YtnebkhelobpkpaaDoor
