/- 'laws.FnThreshold': for all arguments the program's function gives what the model gives, and writes into nothing that it was given. Tied to the program's text: what the library's tables hold. No other condition. -/
import Derived.Test.YteifllengcacbaaDoorRows
import Derived.JoinedOf
import Derived.SevenTiedAt
import Derived.Test.YteifllengcacbaaDoorCards
import Derived.Test.YteifllengcacbaaDoorFgZ
import Derived.Test.YteifllengcacbaaDoorDualI
import Derived.Test.YteifllengcacbaaDoorRound
import Derived.BigQuiet
import Derived.Test.YteifllengcacbaaDoorCntI
import Derived.RangeFuncWrites
import Derived.Test.YteifllengcacbaaDoorMark2
import Derived.Laws.OwnMore
import Derived.Test.YteifllengcacbaaDoorThrI
import Derived.Test.YteifllengcacbaaDoorWtdI
import Derived.Deep.RegionHeld3
import Derived.Test.YteifllengcacbaaDoorOpen
import Derived.LaidHandle
import Derived.LaidLaws
import Derived.LaidMore
import Derived.Test.YteifllengcacbaaDoorTie
namespace Go.Proofs.YteifllengcacbaaDoor
namespace CardP
set_option maxRecDepth 1000000
set_option maxHeartbeats 100000000
theorem own : ownKnob Tryd.prog.godebug = none := by kernel_rfl
theorem laidOut : laidOutB Tryd.prog = true := by kernel_rfl
theorem rowed : mapsRowed Tryd.prog = true := by kernel_rfl
theorem heard : Tryd.prog.stopsHeard = true := by kernel_rfl
theorem enter : Tryd.prog.mayEnter = true := by kernel_rfl
theorem looks : false = Tryd.prog.looks [] := by kernel_rfl
end CardP
end Go.Proofs.YteifllengcacbaaDoor

namespace Go.Proofs.YteifllengcacbaaDoor
namespace Thresh
set_option maxRecDepth 1000000 in
set_option maxHeartbeats 100000000 in
theorem closed : joinedFacts Tryd.pinned.checked.prog 10 Tryd.f10 Rows.fnThresholdSpec Rows.fnThresholdRow = true := by
  rw [joinedFacts]
  simp only [Bool.and_eq_true]
  repeat' apply And.intro
  · as_aux_lemma => kernel_rfl
  · exact CardP.laidOut
  · exact CardP.rowed
  · as_aux_lemma => kernel_rfl
  · as_aux_lemma => kernel_rfl
  · as_aux_lemma => kernel_rfl
  · as_aux_lemma => kernel_rfl
  · as_aux_lemma => kernel_rfl
  · as_aux_lemma => kernel_rfl
  · as_aux_lemma => kernel_rfl
  · as_aux_lemma => kernel_rfl
  · as_aux_lemma => kernel_rfl
  · as_aux_lemma => kernel_rfl
  · as_aux_lemma => kernel_rfl
  · as_aux_lemma => kernel_rfl
  · as_aux_lemma => kernel_rfl
  · as_aux_lemma => kernel_rfl
  · as_aux_lemma => kernel_rfl
  · as_aux_lemma => kernel_rfl
  · as_aux_lemma => kernel_rfl
  · as_aux_lemma => kernel_rfl
  · as_aux_lemma => kernel_rfl
  · as_aux_lemma => kernel_rfl
  · as_aux_lemma => kernel_rfl
  · exact CardP.heard
  · exact CardP.enter
  · as_aux_lemma => kernel_rfl
  · as_aux_lemma => kernel_rfl
  · as_aux_lemma => kernel_rfl
  · as_aux_lemma => kernel_rfl
  · as_aux_lemma => kernel_rfl
  · as_aux_lemma => kernel_rfl
end Thresh
end Go.Proofs.YteifllengcacbaaDoor

namespace Go.Proofs.YteifllengcacbaaDoor
namespace Thresh
set_option maxRecDepth 1000000
set_option maxHeartbeats 100000000
theorem c_named : Tryd.prog.funcNamed "loop.example/g01117/laws.FnThreshold" = some 10 := by kernel_rfl
theorem c_stand : ([22, 22].all fun u => !Tryd.prog.wantsStandIn u) = true := by kernel_rfl
theorem c_wf : Rows.fnThresholdRow.wfByText (OpenSpec.ofChange Rows.fnThresholdSpec) = true := by kernel_rfl
theorem c_main : Tryd.pinned.checked.prog.mainIs = some (true, "6e409f8567a90cbadb9cb177e9d24eb4bf8a9e643d41676aabbeec681e6929fc".toList) := by kernel_rfl
theorem c_goes : false = Rows.fnThresholdRow.goesBy Tryd.pinned.checked.prog := by kernel_rfl
end Thresh
end Go.Proofs.YteifllengcacbaaDoor

namespace Go.Proofs.YteifllengcacbaaDoor
open Go.RowKit Go.Deep Go.Joins
set_option linter.unusedVariables false

theorem dualG {m : Nat} (a : Option Addr) (zss : List (List Int)) (c : Nat) (w : World) (m1 : 1 ≤ m) (h7 : m ≤ 7) (hf : FamOk (m : Int) zss) (hr : Rows2 w a zss) :
    Calls Tryd.prog 23 #[.agg #[.int .i64 (m : Nat), .slice a zss.length c]] w fun e w' => GF w' m (dualB m zss) e ∧ Below w.heap.size w w' := by
  have h := implDual_any (m : Int) a zss c w hr (fam_small h7 hf)
  rw [dualOf_yes hf] at h
  exact h.mono fun e w' g => ⟨GF.of m1 h7 (dual_mono m zss) g, g.below⟩
end Go.Proofs.YteifllengcacbaaDoor

namespace Go.Proofs.YteifllengcacbaaDoor
open Go.RowKit Go.Deep Go.Shelf
set_option linter.unusedVariables false

theorem upon_wide {n : Nat} {P : Program} {o : Oper} {a : Act} {K : Act → World → Prop} {Q : Exit → Act → World → Prop} {r : Result Next} (h : o.upon P a K Q r) : o.uponIn Fence.wide n P a K Q r := by
  rcases r with ⟨x, w'⟩ | ⟨x, w'⟩
  · cases x
    case enter f args => exact ⟨(fun q => nomatch q), callsIn_wide.2 h⟩
    case row row args =>
      refine ⟨(fun q => nomatch q), fun c cs _ => ?_⟩
      obtain ⟨v, w2, r, s⟩ := h c cs
      exact ⟨v, w2, r, stepsIn_wide.2 s⟩
    all_goals first | exact h | exact False.elim h
  · cases x
    all_goals first | exact h | exact False.elim h
theorem wpOp_wide {n : Nat} {P : Program} {ops : Array Oper} {Q : Exit → Act → World → Prop} (hL : ¬ LetsOut Q) {i : Nat} {K K' : Act → World → Prop} (hK : ∀ a w, K a w → K' a w) {a : Act} {w : World}
    (h : wpOp P ops Q i K a w) : wpOpIn Fence.wide n P ops Q i K' a w := by
  unfold wpOp at h
  unfold wpOpIn
  cases ho : ops[i]? with
  | none => rw [ho] at h; exact hK _ _ h
  | some o =>
    rw [ho] at h
    dsimp only at h ⊢
    by_cases hw : Region.wanted o (yielded ops a.tmps) = true
    · rw [if_pos hw] at h ⊢
      rcases h with h | h
      · exact ⟨fun _ _ => trivial, upon_wide (Oper.wp_mono hK h)⟩
      · exact absurd h.2 hL
    · rw [if_neg hw] at h ⊢
      exact ⟨fun _ _ => trivial, hK _ _ h⟩
theorem wpAny_wide {n : Nat} {P : Program} {md : Region.Mode} {ops : Array Oper} {Q : Exit → Act → World → Prop} (hL : ¬ LetsOut Q) :
    ∀ (fuel : Nat) (listed : Array Bool) (a : Act) (w : World), wpAny P md ops Q fuel listed a w → wpAnyIn Fence.wide n P md ops Q fuel listed a w
  | 0, _, _, _, h => h
  | fuel + 1, _, _, _, ⟨h0, h1⟩ => ⟨h0, fun i hi => wpOp_wide hL (fun a w h => wpAny_wide hL fuel _ a w h) (h1 i hi)⟩
/-- One walk for all orders, in a round. -/
theorem wpIn_region_roundQ {P : Program} {n l id : Nat} {lst : List Oper} {Q : Exit → Act → World → Prop} {a : Act} {w : World} (C : World → Prop) (hm : P.follows .mixedOrders = true) (hd : noDefer lst.toArray = true) (hB : Region.lexB .any lst.toArray = true) (hC : C w.drew)
    (h : wpQuiet P lst.toArray C (fun a' => ∀ w', C w' → Q .normal a' w') lst a) : (Code.region id lst.toArray true).wpIn (Fence.wide.inRound l) n P Q a w := by
  have hL : ¬ LetsOut (fun (e : Exit) (a : Act) (w : World) => e = .normal ∧ Q .normal a w) := fun ⟨a, w, h, _⟩ => by cases h
  have h1 : wpAny P .any lst.toArray (fun e a w => e = .normal ∧ Q .normal a w) lst.toArray.size (Array.replicate lst.toArray.size false) a w.drew := by
    simp only [Region.lexB, Bool.and_eq_true] at hB
    refine wpAny_of_quiet (C := C) (Q := fun a' => ∀ w', C w' → Q .normal a' w') (fun _ w' hw' h => ⟨rfl, h w' hw'⟩) _ _ _ _ hC ?_
    have := wpAnyQ_lex (C := C) (md := .any) hB.1 lst.toArray.toList 0 (Array.replicate lst.toArray.size false) a (by simp) (by simpa using hB.2) (by simpa using h)
    simpa using this
  exact wpIn_mono (wpIn_region_round l rfl hd hm (wpAny_wide hL _ _ _ _ h1)) (fun e a w ⟨he, hq⟩ => by subst he; exact hq)
/-- The worlds behind a world, as the values of a function. -/
theorem class_ofR (w : World) : ∃ f : Option World → World, (∀ t, Below w.heap.size w (f t)) ∧ ∀ w', Below w.heap.size w w' → ∃ t, w' = f t := by
  classical
  refine ⟨fun t => match t with | some W => if Below w.heap.size w W then W else w | none => w, fun t => ?_, fun w' h => ⟨some w', by simp [h]⟩⟩
  cases t with
  | none => exact Below.refl _ _
  | some W => by_cases h : Below w.heap.size w W <;> simp [h]; exact Below.refl _ _
end Go.Proofs.YteifllengcacbaaDoor

namespace Go.Proofs.YteifllengcacbaaDoor
open Go.RowKit Go.Deep Go.Shelf
set_option linter.unusedVariables false
attribute [local go_sem] Oper.semAt_some

/-- A group in which two holders have changed places. -/
def swpN (i j g : Nat) : Nat := if g.testBit i = g.testBit j then g else g ^^^ (2 ^ i ||| 2 ^ j)
theorem swpN_lt : ∀ g : Nat, g < 128 → ∀ i : Nat, i < 7 → ∀ j : Nat, j < 7 → swpN i j g < 128 := by decide +kernel
theorem xor_fact : ∀ x : Nat, x < 128 → ∀ i : Nat, i < 7 → ∀ j : Nat, j < 7 → bits BinOp.xor IntKind.u64 (x : Int) (bits BinOp.or IntKind.u64 (IntKind.u64.wrap (2 ^ i)) (IntKind.u64.wrap (2 ^ j))) = (x ^^^ (2 ^ i ||| 2 ^ j) : Nat) := by decide +kernel
set_option maxRecDepth 100000 in
theorem swapped_any (g i j : Nat) (w : World) (hg : g < 128) (hi : i < 7) (hj : j < 7) :
    Calls Tryd.prog 92 #[.int .u64 g, .int .i64 (i : Nat), .int .i64 (j : Nat)] w fun e w' => e = .returned (.int .u64 (swpN i j g : Nat)) ∧ Quiet w w' := by
  have hi0 : (0 : Int) ≤ (i : Int) := by omega
  have hj0 : (0 : Int) ≤ (j : Int) := by omega
  have HX := Lib.hid (xor_fact g hg i hi j hj)
  by_cases hb : g.testBit i = g.testBit j
  · have HV := Lib.hid (show swpN i j g = g by unfold swpN; rw [if_pos hb])
    have hbb : (g.testBit i == g.testBit j) = true := by rw [hb]; simp
    have HBB := Lib.hid hb
    clear hb
    go_enter Tryd.func92, Tryd.ntmps92
    go_wp2_with fail
    refine (has_any g (i : Int) w hg (by omega) (by omega)).mono ?_
    rintro e w' ⟨rfl, rfl⟩
    rw [Int.toNat_natCast, HBB.out]
    go_wp2_with fail
    refine (has_any g (j : Int) w hg (by omega) (by omega)).mono ?_
    rintro e w' ⟨rfl, rfl⟩
    rw [Int.toNat_natCast]
    go_wp2_with fail
    go_ret
    exact ⟨by rw [HV.out]; rfl, Quiet.refl _⟩
  · have HV := Lib.hid (show swpN i j g = g ^^^ (2 ^ i ||| 2 ^ j) by unfold swpN; rw [if_neg hb])
    have hbb : (g.testBit i == g.testBit j) = false := by simp [hb]
    clear hb
    go_enter Tryd.func92, Tryd.ntmps92
    go_wp2_with fail
    refine (has_any g (i : Int) w hg (by omega) (by omega)).mono ?_
    rintro e w' ⟨rfl, rfl⟩
    rw [Int.toNat_natCast]
    go_wp2_with fail
    refine (has_any g (j : Int) w hg (by omega) (by omega)).mono ?_
    rintro e w' ⟨rfl, rfl⟩
    rw [Int.toNat_natCast]
    go_wp2_with fail
    go_quiet (fail)
    go_wp2_with fail
    go_ret
    refine ⟨?_, ⟨_, rfl⟩⟩
    rw [HV.out, ← HX.out]; rfl

def alikeB (q : Nat → Bool) (m i j : Nat) : Bool := (lexAll m).all fun g => q g.val == q (swpN i j g.val)
/-- What lies where groups are swapped. -/
structure AlI (w : World) (T m i j : Nat) (q : Nat → Bool) (r : Bool) (W : World) : Prop where
  bel : Below w.heap.size w W
  sz : w.heap.size + 5 ≤ W.heap.size
  b3 : W.cell? ⟨w.heap.size, 0, none⟩ = some (.pointer (some ⟨T, 0, none⟩))
  b4 : W.cell? ⟨w.heap.size + 1, 0, none⟩ = some (.int .i64 (i : Nat))
  b5 : W.cell? ⟨w.heap.size + 1 + 1, 0, none⟩ = some (.int .i64 (j : Nat))
  b6 : W.cell? ⟨w.heap.size + 1 + 1 + 1, 0, none⟩ = some (.bool r)
  f6 : W.frozen? ⟨w.heap.size + 1 + 1 + 1, 0, none⟩ = false
  tab : TableAt W T m q
theorem AlI.own1 {w W W' : World} {T m i j : Nat} {q : Nat → Bool} {r : Bool} {B : Nat} {row : Option Nat} (hB : w.heap.size ≤ B) (hs : AlI w T m i j q r W) (hg : W.grownBy W' row) (hr : ∀ r, row = some r → B ≤ r ∧ ∃ o : Obj, W.heap[r]? = some o ∧ o.isCells = false) : AlI w T m i j q r W' := by
  have hr' : ∀ r, row = some r → ∃ o : Obj, W.heap[r]? = some o ∧ o.isCells = false := fun r e => (hr r e).2
  exact ⟨hs.bel.grown hg hs.bel.size (fun k hk => by have := (hr k hk).1; omega), Nat.le_trans hs.sz hg.size, cell_kept hs.b3 hg hr', cell_kept hs.b4 hg hr', cell_kept hs.b5 hg hr', cell_kept hs.b6 hg hr', (frozen_kept hs.b6 hg hr').trans hs.f6, hs.tab.kept hg hr'⟩
theorem AlI.step {w W W' : World} {T m i j : Nat} {q : Nat → Bool} {r : Bool} (hs : AlI w T m i j q r W) (hb : Below W.heap.size W W') : AlI w T m i j q r W' :=
  ⟨hs.bel.trans (hb.mono hs.bel.size), Nat.le_trans hs.sz hb.size, cell_step hb hs.b3, cell_step hb hs.b4, cell_step hb hs.b5, cell_step hb hs.b6, (hb.frozen (p := ⟨w.heap.size + 1 + 1 + 1, 0, none⟩) (World.block_lt_of_cell? _ _ hs.b6)).trans hs.f6, hs.tab.step hb⟩
theorem AlI.put {w W : World} {T m i j : Nat} {q : Nat → Bool} {r : Bool} (hs : AlI w T m i j q r W) (hT : T < w.heap.size) (v : Bool) : AlI w T m i j q v (W.setCell ⟨w.heap.size + 1 + 1 + 1, 0, none⟩ (.bool v)) := by
  have hT' : T ≠ w.heap.size + 1 + 1 + 1 := by omega
  refine ⟨hs.bel.setCell (by simp <;> omega) _, by simpa [World.setCell] using hs.sz, ?_, ?_, ?_, ?_, ?_, ⟨?_, fun y hy => ?_, fun o => ?_⟩⟩
  · rw [World.cell?_setCell_other _ _ _ _ (by simp <;> omega)]; exact hs.b3
  · rw [World.cell?_setCell_other _ _ _ _ (by simp <;> omega)]; exact hs.b4
  · rw [World.cell?_setCell_other _ _ _ _ (by simp <;> omega)]; exact hs.b5
  · exact World.cell?_setCell_same' _ _ _ (by rw [hs.b6]; rfl)
  · rw [World.frozen?_setCell]; exact hs.f6
  · rw [World.cell?_setCell_other _ _ _ _ (by simp <;> omega)]; exact hs.tab.h0
  · rw [World.cell?_setCell_other _ _ _ _ (by simp <;> omega)]; exact hs.tab.cell y hy
  · rw [World.frozen?_setCell]; exact hs.tab.free o

set_option maxRecDepth 100000 in
set_option maxHeartbeats 2000000 in
theorem areAlike_any (T m i j : Nat) (q : Nat → Bool) (w : World) (ht : TableAt w T m q) (h7 : m ≤ 7) (hi : i < 7) (hj : j < 7) :
    Calls Tryd.prog 73 #[.pointer (some ⟨T, 0, none⟩), .int .i64 (i : Nat), .int .i64 (j : Nat)] w fun e w' => e = .returned (.bool (alikeB q m i j)) ∧ Below w.heap.size w w' := by
  have hT : T < w.heap.size := World.block_lt_of_cell? _ _ ht.h0
  have h0 := ht.h0
  have HT := Lib.hid ht
  clear ht
  have hT1 : T < w.heap.size + 1 := by omega
  have hT2 : T < w.heap.size + 1 + 1 := by omega
  have hT3 : T < w.heap.size + 1 + 1 + 1 := by omega
  have n0 : ¬ T = w.heap.size := by omega
  have n1 : ¬ T = w.heap.size + 1 := by omega
  have n2 : ¬ T = w.heap.size + 1 + 1 := by omega
  have n3 : ¬ T = w.heap.size + 1 + 1 + 1 := by omega
  refine (callsIn_wide (n := 9)).1 ?_
  have hdd : ∀ k : Nat, (Fence.wide.depth.isSome = true → 1 ≤ k) := fun k h => by cases h
  refine callsIn_of_wp_marks Tryd.func73 rfl trivial ?_ rfl
  simp only [Tryd.ntmps73, List.size_toArray, List.length_cons, List.length_nil, Nat.reduceAdd, Nat.reduceSub, Array.replicate_succ, Array.replicate_zero, List.push_toArray, List.append_toArray, List.nil_append, List.cons_append]
  gi_wp2_with (refine ⟨trivial, ?_⟩; gi_at_call 69; refine (callsIn_wide.2 (groupsOf_any _ _)).mono ?_; rintro e w' ⟨rfl, rfl⟩)
  have hb5 : Below w.heap.size w (((((w.alloc (.cells #[.pointer (some ⟨T, 0, none⟩)] 57)).alloc (.cells #[.int .i64 (i : Nat)] 2)).alloc (.cells #[.int .i64 (j : Nat)] 2)).alloc (.cells #[.bool false] 4)).alloc (.cells #[.int .i64 (m : Nat)] 2)) := (((((Below.refl w.heap.size w).alloc (Nat.le_refl _) (.cells #[.pointer (some ⟨T, 0, none⟩)] 57)).alloc (by simp <;> omega) (.cells #[.int .i64 (i : Nat)] 2)).alloc (by simp <;> omega) (.cells #[.int .i64 (j : Nat)] 2)).alloc (by simp <;> omega) (.cells #[.bool false] 4)).alloc (by simp <;> omega) (.cells #[.int .i64 (m : Nat)] 2)
  have hinv0 : AlI w T m i j q false (((((w.alloc (.cells #[.pointer (some ⟨T, 0, none⟩)] 57)).alloc (.cells #[.int .i64 (i : Nat)] 2)).alloc (.cells #[.int .i64 (j : Nat)] 2)).alloc (.cells #[.bool false] 4)).alloc (.cells #[.int .i64 (m : Nat)] 2)) := ⟨hb5, by simp, by simp [go_sem], by simp [go_sem], by simp [go_sem], by simp [go_sem], by simp [go_sem], HT.out.step hb5⟩
  have hbox : (((((w.alloc (.cells #[.pointer (some ⟨T, 0, none⟩)] 57)).alloc (.cells #[.int .i64 (i : Nat)] 2)).alloc (.cells #[.int .i64 (j : Nat)] 2)).alloc (.cells #[.bool false] 4)).alloc (.cells #[.int .i64 (m : Nat)] 2)).cell? ⟨w.heap.size + 1 + 1 + 1 + 1, 0, none⟩ = some (.int .i64 (m : Nat)) := by simp [go_sem]
  have hsz : (((((w.alloc (.cells #[.pointer (some ⟨T, 0, none⟩)] 57)).alloc (.cells #[.int .i64 (i : Nat)] 2)).alloc (.cells #[.int .i64 (j : Nat)] 2)).alloc (.cells #[.bool false] 4)).alloc (.cells #[.int .i64 (m : Nat)] 2)).heap.size = w.heap.size + 5 := by simp
  clear hb5 h0 hT1 hT2 hT3 n0 n1 n2 n3
  generalize ((((w.alloc (.cells #[.pointer (some ⟨T, 0, none⟩)] 57)).alloc (.cells #[.int .i64 (i : Nat)] 2)).alloc (.cells #[.int .i64 (j : Nat)] 2)).alloc (.cells #[.bool false] 4)).alloc (.cells #[.int .i64 (m : Nat)] 2) = w0 at *
  have HI0 := Lib.hid hinv0
  have hmx : Tryd.prog.follows .mixedOrders = true := by kernel_rfl
  clear hinv0
  refine wpIn_rangeFunc_ownG rfl (by decide) (gf := 87) (lb := #[.pointer (some ⟨w.heap.size + 1 + 1 + 1 + 1, 0, none⟩)]) rfl trivial (enters_of Tryd.func87 (by kernel_rfl) rfl)
    (groups_stops 8 m (w.heap.size + 1 + 1 + 1 + 1) w0 h7 (by omega) hbox) (fun _ _ => trivial) (fun _ _ _ _ _ _ _ _ => trivial) (Below.refl _ _) (fun _ => rfl)
    (fun pre W => AlI w T m i j q false W ∧ ∀ g ∈ pre, q g.val = q (swpN i j g.val))
    (fun c pre W => c = .ret ∧ (∃ g ∈ pre, ¬ q g.val = q (swpN i j g.val)) ∧ AlI w T m i j q false W)
    (fun s W W' row hs hg hr => ⟨AlI.own1 (by omega) hs.1 hg hr, hs.2⟩)
    (fun c s W W' row hs hg hr => ⟨hs.1, hs.2.1, AlI.own1 (by omega) hs.2.2 hg hr⟩)
    ⟨HI0.out, by simp⟩
    (fun x => { tmps := #[.pointer (some ⟨T, 0, none⟩), .int .i64 (i : Nat), .int .i64 (j : Nat), .pointer (some ⟨w.heap.size, 0, none⟩), .pointer (some ⟨w.heap.size + 1, 0, none⟩), .pointer (some ⟨w.heap.size + 1 + 1, 0, none⟩), .pointer (some ⟨w.heap.size + 1 + 1 + 1, 0, none⟩), .int .u64 (x.val : Int), .pointer (some ⟨T, 0, none⟩), .pointer (some ⟨T, 0, none⟩), .pointer (some ⟨T, 0, none⟩), .int .i64 (m : Nat), .func (.func 87) #[] #[.pointer (some ⟨w.heap.size + 1 + 1 + 1 + 1, 0, none⟩)], .int .u64 (x.val : Int), undef, undef, undef, undef, undef, undef, undef, undef, undef, undef], defers := [] }) ?assign ?body ?done ?stop
  case assign =>
    intro l x W K hK
    dsimp only [encG]
    gi_wp2
    exact hK
  case body =>
    intro l pre x W hI hlt
    have hx := x.isLt
    have HI := Lib.hid hI.1
    have HAL := Lib.hid hI.2
    have b3 := hI.1.b3
    have b4 := hI.1.b4
    have b5 := hI.1.b5
    have hI9 := hI.1
    have HSL := Lib.hid (swpN_lt x.val hx i hi j hj)
    obtain ⟨y, hy⟩ : ∃ y, swpN i j x.val = y := ⟨_, rfl⟩
    rw [hy] at HSL
    have HY := Lib.hid hy
    obtain ⟨u, hu⟩ : ∃ u, q x.val = u := ⟨_, rfl⟩
    obtain ⟨v, hv⟩ : ∃ v, q y = v := ⟨_, rfl⟩
    have HU := Lib.hid hu
    have HV := Lib.hid hv
    clear hI hbox hsz hlt hy hu hv
    obtain ⟨f, hf, hg⟩ := class_ofR W
    have HS := Lib.hid hf
    have HM := Lib.hid hg
    have p3 : ∀ t, (f t).cell? ⟨w.heap.size, 0, none⟩ = some (.pointer (some ⟨T, 0, none⟩)) := fun t => cell_step (hf t) b3
    have p4 : ∀ t, (f t).cell? ⟨w.heap.size + 1, 0, none⟩ = some (.int .i64 (i : Nat)) := fun t => cell_step (hf t) b4
    have p5 : ∀ t, (f t).cell? ⟨w.heap.size + 1 + 1, 0, none⟩ = some (.int .i64 (j : Nat)) := fun t => cell_step (hf t) b5
    have HTT := Lib.hid (show ∀ t, TableAt (f t) T m q from fun t => hI9.tab.step (hf t))
    have HOX := Lib.hid (show ∀ t, Calls Tryd.prog 47 #[.pointer (some ⟨T, 0, none⟩), .int .u64 (x.val : Int)] (f t) fun e w' => e = .returned (.bool u) ∧ f t = w' from fun t => by
      have h := opens_any T m x.val q (f t) hx (HTT.out t)
      rw [HU.out] at h
      exact h)
    have HOY := Lib.hid (show ∀ t, Calls Tryd.prog 47 #[.pointer (some ⟨T, 0, none⟩), .int .u64 (y : Int)] (f t) fun e w' => e = .returned (.bool v) ∧ f t = w' from fun t => by
      have h := opens_any T m y q (f t) HSL.out (HTT.out t)
      rw [HV.out] at h
      exact h)
    have HSX := Lib.hid (show ∀ t, Calls Tryd.prog 92 #[.int .u64 (x.val : Int), .int .i64 (i : Nat), .int .i64 (j : Nat)] (f t) fun e w' => e = .returned (.int .u64 (y : Int)) ∧ Quiet (f t) w' from fun t => by
      have h := swapped_any x.val i j (f t) hx hi hj
      rw [HY.out] at h
      exact h)
    clear hf hg b3 b4 b5 hI9
    generalize hxv : x.val = xv at *
    have HXV := Lib.hid hxv
    clear hxv
    gi_wp2_with fail
    refine wpIn_region_roundQ (fun w' => ∃ t, w' = f t) hmx (by kernel_rfl) (by kernel_rfl) (HM.out _ (drew_step _)) ?_
    repeat (first | go_big_quiet_skip | (go_big_quiet_want; go_big_quiet_op; first | go_big_quiet_on | go_big_quiet_call (first
      | (go_at_call 92; with_reducible refine Calls.mono (HSX.out _) ?_; rintro e w8 ⟨rfl, hq8⟩; exact ⟨rfl, HM.out _ (chain (HS.out _) (quiet_below hq8))⟩)
      | (go_at_call 47; with_reducible refine Calls.mono (HOX.out _) ?_; rintro e w8 ⟨rfl, rfl⟩; exact ⟨rfl, _, rfl⟩)
      | (go_at_call 47; with_reducible refine Calls.mono (HOY.out _) ?_; rintro e w8 ⟨rfl, rfl⟩; exact ⟨rfl, _, rfl⟩))))
    refine wpQuiet_nil ?_
    intro wq hwq
    obtain ⟨t, rfl⟩ := hwq
    have HB8 := Lib.hid (HS.out t)
    have HI8 := Lib.hid (HI.out.step (HS.out t))
    have z6 := HI8.out.b6
    have y6 := HI8.out.f6
    have hl6 := World.block_lt_of_cell? _ _ z6
    clear p3 p4 p5
    generalize f t = wq at *
    cases u <;> cases v
    all_goals gi_wp2_with fail
    · exact ⟨(keepsBelow HB8.out).from _, trivial, HI8.out, fun g hg => by
        rcases List.mem_append.1 hg with h | h
        · exact HAL.out g h
        · simp at h; subst h; rw [HXV.out, HY.out, HU.out, HV.out]⟩
    · exact ⟨((keepsBelow HB8.out).trans (KeepsOthers.setCell _ _ _)).from _, rfl, ⟨x, by simp, by rw [HXV.out, HY.out, HU.out, HV.out]; decide⟩, HI8.out.put hT false⟩
    · exact ⟨((keepsBelow HB8.out).trans (KeepsOthers.setCell _ _ _)).from _, rfl, ⟨x, by simp, by rw [HXV.out, HY.out, HU.out, HV.out]; decide⟩, HI8.out.put hT false⟩
    · exact ⟨(keepsBelow HB8.out).from _, trivial, HI8.out, fun g hg => by
        rcases List.mem_append.1 hg with h | h
        · exact HAL.out g h
        · simp at h; subst h; rw [HXV.out, HY.out, HU.out, HV.out]⟩
  case done =>
    rintro D ys W hD rfl ⟨hI, hall⟩ hK
    have b6 := hI.b6
    have f6 := hI.f6
    have hl6 := World.block_lt_of_cell? _ _ b6
    have HI := Lib.hid hI
    have HK := Lib.hid hK
    have HV := Lib.hid (show alikeB q m i j = true by unfold alikeB; rw [List.all_eq_true]; intro g hg; rw [hall g hg]; simp)
    clear hI hK hbox hall
    gi_wp2_with fail
    have k3 : (W.setCell ⟨w.heap.size + 1 + 1 + 1, 0, none⟩ (.bool true)).heap[D]? = some (.deferred (some [])) := (Below.heap_setCell _ _ _ _ (by show D ≠ w.heap.size + 1 + 1 + 1; omega)).trans HK.out
    have hip := HI.out.put hT true
    have d0 := cell_kept hip.b6 (grownBy_putObj' _ D (.deferred none)) (fun r e => by cases e; exact ⟨_, k3, rfl⟩)
    have hbe := hip.bel.grown (grownBy_putObj' _ D (.deferred none)) hip.bel.size (fun k e => by cases e; omega)
    refine ⟨by simp, .inl ⟨_, _, rfl, run_takeDeferred k3, ?_⟩⟩
    refine ⟨.bool true, ?_, ?_⟩
    · simp only [results]
      go_simp
    · exact ⟨by rw [HV.out], hbe⟩
  case stop =>
    rintro D c pre W hD hpre ⟨rfl, ⟨g, hg, hne⟩, hI⟩ hK
    have HV := Lib.hid (show alikeB q m i j = false by
      cases h : alikeB q m i j with
      | false => rfl
      | true =>
        unfold alikeB at h
        rw [List.all_eq_true] at h
        exact absurd (by simpa using h g (hpre.subset hg)) hne)
    have d0 := cell_kept hI.b6 (grownBy_putObj' _ D (.deferred none)) (fun r e => by cases e; exact ⟨_, hK, rfl⟩)
    have hbe := hI.bel.grown (grownBy_putObj' _ D (.deferred none)) hI.bel.size (fun k e => by cases e; omega)
    clear hbox hne hg hpre
    gi_wp2_with fail
    refine ⟨by simp, .inl ⟨_, _, rfl, run_takeDeferred hK, ?_⟩⟩
    refine ⟨.bool false, ?_, ?_⟩
    · simp only [results]
      go_simp
    · exact ⟨by rw [HV.out], hbe⟩
end Go.Proofs.YteifllengcacbaaDoor

namespace Go.Proofs.YteifllengcacbaaDoor
open Go.RowKit Go.Deep
set_option linter.unusedVariables false

theorem vals_atW (zs : List Int) {j : Nat} (h : j < zs.length) : (vals zs)[j]? = some (.int .i64 (nth zs j)) := by
  rw [nth_lt h]; simp [vals, h]
theorem vals_setW (zs : List Int) (j : Nat) (y : Int) : (vals zs).set j (.int .i64 y) = vals (zs.set j y) := by simp [vals, List.map_set]
def RowW (W : World) (base g n cap : Nat) (zs : List Int) : Prop := W.ownsRow base 2 1 (.slice (some ⟨g, 0, none⟩) n cap) n (vals zs) ∧ zs.length = n
theorem RowW.own {W : World} {base g n cap : Nat} {zs : List Int} (h : RowW W base g n cap zs) : OwnI W base (.slice (some ⟨g, 0, none⟩) n cap) zs := by
  unfold OwnI; rw [h.2]; exact h.1
theorem RowW.of {W : World} {base g n cap : Nat} {zs : List Int} (h : OwnI W base (.slice (some ⟨g, 0, none⟩) n cap) zs) (hn : zs.length = n) : RowW W base g n cap zs := ⟨by
  unfold OwnI at h; rw [hn] at h; exact h, hn⟩
theorem RowW.cell {W : World} {base g n cap : Nat} {zs : List Int} (h : RowW W base g n cap zs) {j : Nat} (hj : j < n) : W.cell? ⟨g, j, none⟩ = some (.int .i64 (nth zs j)) := by
  rw [World.ownsRow.cellAt h.1 j (by omega), vals_atW _ (by rw [h.2]; exact hj)]
theorem RowW.fz {W : World} {base g n cap : Nat} {zs : List Int} (h : RowW W base g n cap zs) (j : Nat) : W.frozen? ⟨g, j, none⟩ = false := World.ownsRow.frozenAt h.1 j
theorem RowW.gl {W : World} {base g n cap : Nat} {zs : List Int} (h : RowW W base g n cap zs) : base ≤ g ∧ g < W.heap.size := World.ownsRow.lt h.1 g rfl
theorem RowW.put {W : World} {base g n cap : Nat} {zs : List Int} (h : RowW W base g n cap zs) (j : Nat) (v : Int) : RowW (W.setCell ⟨g, j, none⟩ (.int .i64 v)) base g n cap (zs.set j v) := by
  obtain ⟨h1, h2⟩ := World.ownsRow.stored h.1 j (.int .i64 v)
  rw [vals_setW] at h1
  exact ⟨h1, by simp [h.2]⟩
theorem RowW.step {W W' : World} {base g n cap : Nat} {zs : List Int} (h : RowW W base g n cap zs) (hb : Below W.heap.size W W') : RowW W' base g n cap zs := .of (OwnI.step h.own hb) h.2
theorem made_rowW (w : World) (m : Nat) (hm : m ≤ 7) : RowW (w.alloc (.cells (madeCells #[.int .i64 0] m) 2)) w.heap.size w.heap.size m m (List.replicate m 0) := by
  have h0 := World.rowIs_made w (.int .i64 0) m 2
  have hl : (List.replicate m (0 : Int)).length = m := List.length_replicate
  have h1 : (w.alloc (.cells (madeCells #[.int .i64 0] m) 2)).rowIs w.heap.size 2 (List.replicate m (0 : Int)).length (fun i => .int .i64 (nth (List.replicate m (0 : Int)) i)) := by
    rw [hl]
    obtain ⟨c, h1, h2, h3⟩ := h0
    exact ⟨c, h1, h2, fun i hi => by
      rw [h3 i hi]
      show some (Value.int .i64 0) = some (.int .i64 (nth (List.replicate m (0 : Int)) i))
      rw [nth_lt (by rw [hl]; exact hi)]; simp⟩
  have h2 := own_of_row h1 (by rw [hl]; unfold maxLen; omega)
  have h3 := RowW.of (n := (List.replicate m (0 : Int)).length) h2 rfl
  rw [hl] at h3
  exact h3
end Go.Proofs.YteifllengcacbaaDoor

namespace Go.Proofs.YteifllengcacbaaDoor
open Go.RowKit Go.Deep Go.Shelf
set_option linter.unusedVariables false

/-- The first holder that h is like, or h. -/
def firstTo (p : Nat → Bool) (h : Nat) : Nat → Nat
  | 0 => h
  | d + 1 => if p (h - (d + 1)) = true then h - (d + 1) else firstTo p h d
/-- The first k below h with p, or h. -/
def firstOf (p : Nat → Bool) (h : Nat) : Nat := firstTo p h h
theorem firstTo_is {p : Nat → Bool} {h : Nat} : ∀ d k, k ≤ h → h - k ≤ d → d ≤ h → (∀ l, h - d ≤ l → l < k → p l = false) → (k = h ∨ p k = true) → firstTo p h d = k
  | 0, k, hk, hd, _, _, _ => by simp [firstTo]; omega
  | d + 1, k, hk, hd, hdh, hl, hp => by
    unfold firstTo
    by_cases e : h - (d + 1) = k
    · rw [e]
      rcases hp with q | q
      · omega
      · rw [if_pos q]
    · rw [if_neg (by rw [hl _ (Nat.le_refl _) (by omega)]; simp)]
      exact firstTo_is d k hk (by omega) (by omega) (fun l h1 h2 => hl l (by omega) h2) hp
theorem firstOf_is {p : Nat → Bool} {h k : Nat} (hk : k ≤ h) (hl : ∀ l, l < k → p l = false) (hp : k = h ∨ p k = true) : firstOf p h = k :=
  firstTo_is h k hk (by omega) (Nat.le_refl _) (fun l _ h2 => hl l h2) hp
/-- The numbers of the first k holders, and the next number. -/
def alN (q : Nat → Bool) (m : Nat) : Nat → List Int × Nat
  | 0 => ([], 0)
  | h + 1 => if firstOf (fun l => alikeB q m l h) h < h then ((alN q m h).1 ++ [nth (alN q m h).1 (firstOf (fun l => alikeB q m l h) h)], (alN q m h).2) else ((alN q m h).1 ++ [((alN q m h).2 : Int)], (alN q m h).2 + 1)
theorem alN_len (q : Nat → Bool) (m : Nat) : ∀ h, (alN q m h).1.length = h
  | 0 => rfl
  | h + 1 => by
    unfold alN
    split <;> simp [alN_len q m h]
theorem alN_le (q : Nat → Bool) (m : Nat) : ∀ h, (alN q m h).2 ≤ h
  | 0 => Nat.le_refl _
  | h + 1 => by
    have := alN_le q m h
    unfold alN
    split
    · show (alN q m h).2 ≤ h + 1; omega
    · show (alN q m h).2 + 1 ≤ h + 1; omega
theorem alN_old {q : Nat → Bool} {m h k : Nat} (hk : k < h) (e : firstOf (fun l => alikeB q m l h) h = k) : alN q m (h + 1) = ((alN q m h).1 ++ [nth (alN q m h).1 k], (alN q m h).2) := by
  rw [alN, e, if_pos hk]
theorem alN_new {q : Nat → Bool} {m h : Nat} (e : firstOf (fun l => alikeB q m l h) h = h) : alN q m (h + 1) = ((alN q m h).1 ++ [((alN q m h).2 : Int)], (alN q m h).2 + 1) := by
  rw [alN, e, if_neg (Nat.lt_irrefl _)]
noncomputable def alOf (h : Int) (zss : List (List Int)) : List Int := if tell (FamOk h zss) = true then (alN (tabOf h zss) h.toNat h.toNat).1 else []
/-- Half done: the first numbers, then zeros. -/
def alMid (l : List Int) (m : Nat) : List Int := l ++ List.replicate (m - l.length) 0
theorem alMid_at {l : List Int} {m k : Nat} (hk : k < l.length) : nth (alMid l m) k = nth l k := by
  unfold alMid
  rw [nth_lt (by simp; omega), List.getElem_append_left hk, nth_lt hk]
theorem alMid_set {l : List Int} {m : Nat} (hl : l.length < m) (v : Int) : (alMid l m).set l.length v = alMid (l ++ [v]) m := by
  unfold alMid
  rw [List.set_append_right _ _ (Nat.le_refl _), Nat.sub_self, show m - l.length = (m - (l ++ [v]).length) + 1 by simp; omega, List.replicate_succ, List.set_cons_zero, List.append_assoc]
  rfl
theorem alMid_all {l : List Int} {m : Nat} (h : l.length = m) : alMid l m = l := by unfold alMid; rw [h, Nat.sub_self]; simp
set_option maxRecDepth 100000 in
set_option maxHeartbeats 4000000 in
theorem implAl_any (h : Int) (a : Option Addr) (zss : List (List Int)) (c : Nat) (w : World) (hr : Rows2 w a zss) (hl : Small2 zss) :
    Calls Tryd.prog 37 #[.agg #[.int .i64 h, .slice a zss.length c]] w (GivesIntsCode w (alOf h zss) (okCode h zss)) := by
  have hb1 := (Below.refl w.heap.size w).alloc (Nat.le_refl _) (.cells #[.int .i64 h, .slice a zss.length c] 26)
  have c0 : (w.alloc (.cells #[.int .i64 h, .slice a zss.length c] 26)).cell? ⟨w.heap.size, 0, none⟩ = some (.int .i64 h) := by simp
  have hlt0 : w.heap.size < (w.alloc (.cells #[.int .i64 h, .slice a zss.length c] 26)).heap.size := by simp
  have HR := Lib.hid (hr.step hb1)
  have HL := Lib.hid hl
  have HB := Lib.hid hb1
  clear hr hl hb1
  by_cases hf : FamOk h zss
  · have HFO := Lib.hid hf
    have hh1 : 1 ≤ h := hf.1.1
    have hh7 : h ≤ 7 := hf.1.2
    have HV := Lib.hid (show alOf h zss = (alN (tabOf h zss) h.toNat h.toNat).1 by rw [alOf, if_pos (tell_true hf)])
    have HCO := Lib.hid (show okCode h zss = 0 by rw [okCode, if_pos (tell_true hf)])
    clear hf
    obtain ⟨m, rfl⟩ : ∃ m : Nat, h = (m : Int) := ⟨h.toNat, by omega⟩
    rw [Int.toNat_natCast] at HV
    have m7 : m ≤ 7 := by omega
    have m1 : 1 ≤ m := by omega
    have hmk := run_make_row' (P := Tryd.prog) 28 2 (.int .i64 0) 8 Tryd.underlying28 Tryd.infoInt64 rfl .i64 .i64 m (by omega) (by omega)
    go_enter Tryd.func37, Tryd.ntmps37
    go_wp2_with fail
    refine (tableOf_any (m : Int) a zss c _ HR.out HL.out).mono ?_
    generalize w.alloc (.cells #[.int .i64 (m : Int), .slice a zss.length c] 26) = w1 at *
    rintro e w2 ⟨hy, -, hb⟩
    obtain ⟨T, rfl, hT, htab⟩ := hy HFO.out
    rw [Int.toNat_natCast] at htab
    have HTA := Lib.hid htab
    have HB2 := Lib.hid (chain HB.out hb)
    have p0 := (hb.cell (p := ⟨w.heap.size, 0, none⟩) hlt0).trans c0
    have hl2 : w.heap.size < w2.heap.size := Nat.lt_of_lt_of_le hlt0 hb.size
    clear htab hy hb c0
    generalize tabOf (m : Int) zss = q at *
    have HMK := Lib.hid (made_rowW w2 m m7)
    have hba := (Below.refl w2.heap.size w2).alloc (Nat.le_refl _) (.cells (madeCells #[.int .i64 0] m) 2)
    have HBA := Lib.hid hba
    have HTB := Lib.hid (HTA.out.step hba)
    clear hba
    go_wp2_with fail
    clear hmk p0
    generalize w2.alloc (.cells (madeCells #[.int .i64 0] m) 2) = w3 at *
    generalize hgb : w2.heap.size = gb at *
    have HGB := Lib.hid hgb
    clear hgb
    go_loopw [6, 7, 8, 18] (fun u q7 q8 i wr => ∃ h : Nat, h ≤ m ∧ i = .int .i64 (h : Nat) ∧ u = .int .i64 ((alN q m h).2 : Nat) ∧ RowW wr gb gb m m (alMid (alN q m h).1 m) ∧ Below gb w2 wr)
      (fun _ _ _ i _ => m - (intOf i).toNat)
    case atStart => exact ⟨0, Nat.zero_le _, rfl, rfl, by show RowW w3 gb gb m m (alMid [] m); unfold alMid; simpa using HMK.out, HBA.out⟩
    case round =>
      obtain ⟨h, hh, rfl, rfl, hrow, hbe⟩ := hrel
      have HROW := Lib.hid hrow
      have HBE := Lib.hid hbe
      have HTR := Lib.hid (HTA.out.step (show Below w2.heap.size w2 wr by rw [HGB.out]; exact hbe))
      have hsr := hbe.size
      have hlen := alN_len q m h
      have hun := alN_le q m h
      obtain ⟨l, hl⟩ : ∃ l, (alN q m h).1 = l := ⟨_, rfl⟩
      obtain ⟨u, hu⟩ : ∃ u, (alN q m h).2 = u := ⟨_, rfl⟩
      rw [hl] at HROW hlen
      rw [hu] at hun ⊢
      have HLN := Lib.hid hlen
      have HL9 := Lib.hid hl
      have HU9 := Lib.hid hu
      clear hrow hbe HMK HBA HTB hlen hl hu
      by_cases hlt : h < m
      · have hi0 : (h : Int) < (m : Int) := by omega
        go_wp2_with fail
        obtain ⟨wo, rfl⟩ : ∃ wo : World, wo = wr := ⟨_, rfl⟩
        go_loopw [8] (fun k wi => ∃ j : Nat, j ≤ h ∧ k = .int .i64 (j : Nat) ∧ (∀ l, l < j → alikeB q m l h = false) ∧ Below wo.heap.size wo wi)
          (fun k _ => h - (intOf k).toNat)
        case atStart => exact ⟨0, Nat.zero_le _, rfl, fun l hl => absurd hl (Nat.not_lt_zero _), Below.refl _ _⟩
        case round =>
          obtain ⟨j, hj, rfl, hall, hbi⟩ := hrel
          have HALL := Lib.hid hall
          have HBI := Lib.hid hbi
          have HTI := Lib.hid (HTR.out.step hbi)
          clear hall hbi
          by_cases hjh : j < h
          · have hj0 : (j : Int) < (h : Int) := by omega
            go_wp2_with fail
            refine (areAlike_any T m j h q wr HTI.out m7 (by omega) (by omega)).mono ?_
            rintro e w5 ⟨rfl, hb5⟩
            have HB5 := Lib.hid (chain HBI.out hb5)
            have hs5 := HB5.out.size
            clear hb5
            cases hal : alikeB q m j h with
            | false =>
              have HAF := Lib.hid hal
              clear hal
              go_wp2_with fail
              go_roundw
              case rel => exact ⟨j + 1, by omega, by go_num, fun l hl => by
                by_cases e : l = j
                · subst e; exact HAF.out
                · exact HALL.out l (by omega), HB5.out⟩
              case measure => simp [intOf]; omega
            | true =>
              have hrow5 := HROW.out.step HB5.out
              have x1 := hrow5.cell (j := j) (by omega)
              have x2 := hrow5.cell (j := h) hlt
              have f2 := hrow5.fz h
              have gl := hrow5.gl.2
              have HP := Lib.hid (hrow5.put h (nth (alMid l m) j))
              have HST := Lib.hid (alN_old hjh (firstOf_is (p := fun l => alikeB q m l h) hj HALL.out (.inr hal)))
              have HMS := Lib.hid (alMid_set (l := l) (m := m) (by rw [HLN.out]; exact hlt) (nth (alMid l m) j))
              have HMA := Lib.hid (alMid_at (l := l) (m := m) (k := j) (by rw [HLN.out]; exact hjh))
              clear hal hrow5
              generalize nth (alMid l m) j = z at *
              generalize nth (alMid l m) h = z2 at *
              go_wp2_with fail
              go_roundw
              case rel =>
                refine ⟨h + 1, by omega, by go_num, ?_, ?_, (HBE.out.trans (HB5.out.mono (by have := HGB.out; omega))).setCell (p := ⟨gb, h, none⟩) (Nat.le_refl _) _⟩
                · rw [HST.out]; show _ = Value.int .i64 (((alN q m h).2 : Nat) : Int); rw [HU9.out]
                · rw [HST.out]
                  show RowW _ gb gb m m (alMid ((alN q m h).1 ++ [nth (alN q m h).1 j]) m)
                  have h9 := HP.out
                  rw [HL9.out, ← HMA.out, ← HMS.out, HLN.out]
                  exact h9
              case measure => simp [intOf]; omega
          · have hj0 : ¬ (j : Int) < (h : Int) := by omega
            have hE : j = h := by omega
            subst hE
            have hrow5 := HROW.out.step HBI.out
            have x2 := hrow5.cell (j := j) hlt
            have f2 := hrow5.fz j
            have gl := hrow5.gl.2
            have hs5 := HBI.out.size
            have HP := Lib.hid (hrow5.put j (u : Int))
            have HST := Lib.hid (alN_new (firstOf_is (p := fun l => alikeB q m l j) (Nat.le_refl j) HALL.out (.inl rfl)))
            have HMS := Lib.hid (alMid_set (l := l) (m := m) (by rw [HLN.out]; exact hlt) (u : Int))
            clear hrow5
            generalize nth (alMid l m) j = z2 at *
            go_wp2_with fail
            go_roundw
            case rel =>
              refine ⟨j + 1, by omega, by go_num, ?_, ?_, (HBE.out.trans (HBI.out.mono (by have := HGB.out; omega))).setCell (p := ⟨gb, j, none⟩) (Nat.le_refl _) _⟩
              · rw [HST.out]; show _ = Value.int .i64 (((alN q m j).2 + 1 : Nat) : Int); rw [HU9.out]; go_num
              · rw [HST.out]
                show RowW _ gb gb m m (alMid ((alN q m j).1 ++ [(((alN q m j).2 : Nat) : Int)]) m)
                have h9 := HP.out
                rw [HL9.out, HU9.out, ← HMS.out, HLN.out]
                exact h9
            case measure => simp [intOf]; omega
      · have hi0 : ¬ (h : Int) < (m : Int) := by omega
        have hE : h = m := by omega
        subst hE
        go_wp2_with fail
        go_ret2
        refine ⟨⟨_, by rw [HCO.out]; rfl, ?_⟩, HB2.out.trans (HBE.out.mono (by omega))⟩
        have h9 := HROW.out.own
        rw [alMid_all HLN.out, ← HL9.out, ← HV.out] at h9
        exact h9.mono (by omega)
  · have HFO := Lib.hid hf
    have HV := Lib.hid (show alOf h zss = [] by rw [alOf, if_neg (by rw [tell_false hf]; simp)])
    have HCO := Lib.hid (show okCode h zss = 1 by rw [okCode, if_neg (by rw [tell_false hf]; simp)])
    clear hf
    go_enter Tryd.func37, Tryd.ntmps37
    go_wp2_with fail
    refine (tableOf_any h a zss c _ HR.out HL.out).mono ?_
    generalize w.alloc (.cells #[.int .i64 h, .slice a zss.length c] 26) = w1 at *
    rintro e w2 ⟨-, hn, hb⟩
    obtain rfl := hn HFO.out
    have HB2 := Lib.hid (chain HB.out hb)
    clear hn hb
    go_wp2_with fail
    go_ret2
    exact ⟨⟨_, by rw [HCO.out]; rfl, by rw [HV.out]; exact OwnI.nil _ _⟩, HB2.out⟩
end Go.Proofs.YteifllengcacbaaDoor

namespace Go.Proofs.YteifllengcacbaaDoor
open Go.RowKit Go.Deep Go.Joins
set_option linter.unusedVariables false

def thrB (k : Int) (x : Nat) : Bool := decide (k ≤ ((listOf x).length : Nat))
theorem rep_len (n : Nat) : (List.replicate n (1 : Int)).length = n := List.length_replicate
theorem thr_heavy {n : Nat} (h7 : n ≤ 7) (k : Int) {x : Nat} (hx : x < 2 ^ n) : heavy (List.replicate n 1) k x = thrB k x := by
  have h := ones_fact ⟨n, by omega⟩ ⟨x, by have := pow_128 h7; omega⟩ hx
  unfold heavy thrB
  rw [rep_len]
  rw [show wsum (List.replicate n 1) x n = ((listOf x).length : Nat) from h]
theorem thr_mono {n : Nat} (h7 : n ≤ 7) (k : Int) : Mono n (thrB k) := fun x y hx hy hs h => by
  rw [← thr_heavy h7 k hx] at h
  rw [← thr_heavy h7 k hy]
  exact heavy_mono (zs := List.replicate n 1) (fun i hi => by rw [nth_lt hi]; simp) k n x y hx hy hs h
theorem thrG {n : Nat} (k : Int) (w : World) (n1 : 1 ≤ n) (n7 : n ≤ 7) (k0 : 0 ≤ k) (k1 : k ≤ (n : Int) + 1) :
    Calls Tryd.prog 39 #[.int .i64 (n : Nat), .int .i64 k] w fun e w' => GF w' n (thrB k) e ∧ Below w.heap.size w w' := by
  have h := implThr_any (n : Int) k w
  rw [thrOf_yes ⟨⟨by omega, by omega⟩, k0, k1⟩, Int.toNat_natCast] at h
  exact h.mono fun e w' g => ⟨GF.of n1 n7 (thr_mono n7 k) g, g.below⟩
theorem wtdG {n : Nat} (a : Option Addr) (c : Nat) (k : Int) (w : World) (n1 : 1 ≤ n) (n7 : n ≤ 7) (k0 : 0 ≤ k) (k1 : k ≤ (n : Int) + 1) (hr : Ints w a (List.replicate n 1)) :
    Calls Tryd.prog 40 #[.slice a n c, .int .i64 k] w fun e w' => GF w' n (thrB k) e ∧ Below w.heap.size w w' := by
  have h := implWtd_any a (List.replicate n 1) c k w hr (by rw [rep_len]; omega)
  rw [wtdOf_yes (zs := List.replicate n 1) ⟨by rw [rep_len]; omega, by omega, fun i hi => by rw [nth_lt hi]; simp⟩, famOf_ones n7 k, rep_len] at h
  exact h.mono fun e w' g => ⟨GF.of n1 n7 (thr_mono n7 k) g, g.below⟩
theorem off_size : ∀ n : Nat, n < 8 → ∀ x : Nat, x < 128 → x < 2 ^ n → (listOf (2 ^ n - 1 - x)).length + (listOf x).length = n := by decide +kernel
theorem swp_size : ∀ g : Nat, g < 128 → ∀ i : Nat, i < 7 → ∀ j : Nat, j < 7 → (listOf (swpN i j g)).length = (listOf g).length := by decide +kernel
theorem swp_lt2 {m i j g : Nat} (hi : i < m) (hj : j < m) (hg : g < 2 ^ m) : swpN i j g < 2 ^ m := by
  unfold swpN
  split
  · exact hg
  · exact Nat.xor_lt_two_pow hg (Nat.or_lt_two_pow (Nat.pow_lt_pow_right (by decide) hi) (Nat.pow_lt_pow_right (by decide) hj))
theorem alike_of {m i j : Nat} {q : Nat → Bool} (h7 : m ≤ 7) : alikeB q m i j = true ↔ ∀ g, g < 2 ^ m → q g = q (swpN i j g) := by
  have h128 := pow_128 h7
  unfold alikeB
  rw [List.all_eq_true]
  constructor
  · intro h g hg
    have := h ⟨g, by omega⟩ ((mem_lex h7 _).2 hg)
    simpa using this
  · intro h g hg
    have := h g.val ((mem_lex h7 g).1 hg)
    simpa using this
theorem alN_zero {q : Nat → Bool} {m : Nat} (h : ∀ i j, i < j → j < m → alikeB q m i j = true) : ∀ k, k ≤ m → (alN q m k).1 = List.replicate k 0
  | 0, _ => rfl
  | 1, _ => by
    rw [alN_new (firstOf_is (Nat.le_refl 0) (fun l hl => absurd hl (Nat.not_lt_zero _)) (.inl rfl))]
    rfl
  | k + 2, hk => by
    have ih := alN_zero h (k + 1) (by omega)
    rw [alN_old (k := 0) (by omega) (firstOf_is (p := fun l => alikeB q m l (k + 1)) (Nat.zero_le _) (fun l hl => absurd hl (Nat.not_lt_zero _)) (.inr (h 0 (k + 1) (by omega) (by omega))))]
    show (alN q m (k + 1)).1 ++ [nth (alN q m (k + 1)).1 0] = _
    rw [ih, nth_lt (by simp), List.getElem_replicate]
    exact List.replicate_succ'.symm
/-- The numbers of a valid family's holders. -/
structure GA (w' : World) (m : Nat) (l : List Int) (e : Ending) : Prop where
  val : ∃ a c, e = .returned (.tuple #[.slice a m c, .int .i64 0]) ∧ Ints w' a l ∧ l.length = m
theorem alikeG {m : Nat} (a : Option Addr) (zss : List (List Int)) (c : Nat) (w : World) (h7 : m ≤ 7) (hf : FamOk (m : Int) zss) (hr : Rows2 w a zss) :
    Calls Tryd.prog 37 #[.agg #[.int .i64 (m : Nat), .slice a zss.length c]] w fun e w' => GA w' m (alN (tabOf (m : Int) zss) m m).1 e ∧ Below w.heap.size w w' := by
  have h := implAl_any (m : Int) a zss c w hr (fam_small h7 hf)
  rw [show okCode (m : Int) zss = 0 by unfold okCode; rw [if_pos (tell_true hf)], show alOf (m : Int) zss = (alN (tabOf (m : Int) zss) m m).1 by rw [alOf, if_pos (tell_true hf), Int.toNat_natCast]] at h
  refine h.mono fun e w' g => ⟨?_, g.below⟩
  obtain ⟨v, rfl, ho⟩ := g.val
  obtain ⟨a, c, rfl, hi, _⟩ := ho.ints
  rw [alN_len]
  exact ⟨a, c, rfl, hi, alN_len _ _ _⟩
set_option maxRecDepth 100000 in
theorem a2Zeros_any (a : Option Addr) (zs : List Int) (c n : Nat) (w : World) (h : Ints w a zs) (hn : zs.length = n) (hl : n ≤ 1000) (hz : ∀ i, i < n → nth zs i = 0) :
    Calls Tryd.prog 41 #[.slice a n c] w fun e w' => e = .returned (.bool true) ∧ w = w' := by
  have HZ := Lib.hid hz
  have HN := Lib.hid hn
  clear hz hn
  go_enter Tryd.func41, Tryd.ntmps41
  go_wp2_with fail
  go_loop [3] (fun i => ∃ k : Nat, i = .int .i64 k ∧ k ≤ n) (fun i => n - (intOf i).toNat)
  case atStart => exact ⟨0, rfl, Nat.zero_le _⟩
  case round =>
    obtain ⟨k, rfl, hk⟩ := hrel
    by_cases hlt : k < n
    · have hnn := HN.out
      rcases h with h | ⟨b, o, rfl, hc⟩
      · rw [h] at hnn; simp at hnn; omega
      have hcell := hc k (by omega)
      rw [HZ.out k hlt] at hcell
      have hi0 : (k : Int) < (n : Int) := by omega
      clear hc hnn
      go_wp2_with fail
      go_round
      case rel => exact ⟨k + 1, by go_num, by omega⟩
      case measure => simp [intOf]; omega
    · have hi0 : ¬ (k : Int) < (n : Int) := by omega
      go_wp2_with fail
      go_ret
      exact ⟨rfl, rfl⟩
end Go.Proofs.YteifllengcacbaaDoor

namespace Go.Proofs.YteifllengcacbaaDoor
open Go.ChangeShapes Go.WideShapes Go.ChangeAt Go.RowKit Go.Deep Go.Joins
set_option linter.unusedVariables false
namespace Thresh

set_option maxRecDepth 100000 in
set_option maxHeartbeats 8000000 in
theorem law (a0 : Option Addr) (z0 : List Int) (c0 : Nat) (a1 : Option Addr) (z1 : List Int) (c1 : Nat) (w : World) (hr0 : Bytes w a0 z0) (hl0 : z0.length ≤ 9223372036854775807) (hr1 : Bytes w a1 z1) (hl1 : z1.length ≤ 9223372036854775807) :
    Calls Tryd.prog 10 #[.slice a0 z0.length c0, .slice a1 z1.length c1] w fun e w' => e = .returned (.bool true) ∧ Below w.heap.size w w' := by
  have R0 := Lib.hid hr0
  have R1 := Lib.hid hr1
  clear hr0 hr1
  by_cases hlong : 3000 < z0.length ∨ 3000 < z1.length
  · have HT := Lib.hid (tell_true hlong)
    clear hlong
    go_enter Tryd.func10, Tryd.ntmps10
    go_wp2_with fail
    refine (a2Long_any a0 a1 z0 z1 c0 c1 w).mono ?_
    rintro e w' ⟨rfl, rfl⟩
    rw [HT.out]
    go_wp2_with fail
    go_ret
    exact ⟨rfl, Below.refl _ _⟩
  have HT := Lib.hid (tell_false hlong)
  have s0 : z0.length ≤ 3000 := by omega
  have s1 : z1.length ≤ 3000 := by omega
  clear hlong
  obtain ⟨i0, hi, hz0, hz1, hz2⟩ := info_parts Tryd.infoInt64
  go_enter Tryd.func10, Tryd.ntmps10
  go_wp2_with fail
  refine (a2Long_any a0 a1 z0 z1 c0 c1 w).mono ?_
  rintro e w' ⟨rfl, rfl⟩
  rw [HT.out]
  have HBW := Lib.hid (Below.refl w.heap.size w)
  go_wp2_with fail
  refine (a2At_any a0 z0 c0 0 7 w R0.out s0 (by omega) (by omega) (by omega)).mono ?_
  rintro e w' ⟨rfl, rfl⟩
  obtain ⟨h90, h91⟩ := atOf_range z0 0 (n := 7) (by omega)
  obtain ⟨j, hj⟩ : ∃ j : Nat, atOf z0 0 7 = (j : Int) := ⟨(atOf z0 0 7).toNat, by omega⟩
  rw [hj] at h90 h91 ⊢
  have jb : (j : Int) < 7 := h91
  clear hj h90 h91
  go_wp2_with fail
  obtain ⟨n, hn⟩ : ∃ n, n = j + 1 := ⟨_, rfl⟩
  rw [show (1 : Int) + (j : Int) = (n : Int) by omega]
  have n1 : 1 ≤ n := by omega
  have n7 : n ≤ 7 := by omega
  clear hn jb
  refine (a2At_any a1 z1 c1 0 ((n : Int) + 2) w R1.out s1 (by omega) (by omega) (by omega)).mono ?_
  rintro e w' ⟨rfl, rfl⟩
  obtain ⟨h90, h91⟩ := atOf_range z1 0 (n := (n : Int) + 2) (by omega)
  obtain ⟨t, hj⟩ : ∃ j : Nat, atOf z1 0 ((n : Int) + 2) = (j : Int) := ⟨(atOf z1 0 ((n : Int) + 2)).toNat, by omega⟩
  rw [hj] at h90 h91 ⊢
  have tb : t ≤ n + 1 := by omega
  clear hj h90 h91
  go_wp2_with fail
  refine (thrG (t : Int) w n1 n7 (by omega) (by omega)).mono ?_
  rintro e w1 ⟨⟨fa, fz, fc, rfl, hok, ht, hr⟩, hb⟩
  replace R0 := Lib.hid (R0.out.step hb)
  replace R1 := Lib.hid (R1.out.step hb)
  replace HBW := Lib.hid (chain HBW.out hb)
  have HOF := Lib.hid hok
  have HTF := Lib.hid ht
  have HRF := Lib.hid hr
  clear hb hok ht hr
  have hba := al_b w1 (.cells #[.int .i64 (n : Nat), .slice fa fz.length fc] 26)
  have hx : Boxes (w1.alloc (.cells #[.int .i64 (n : Nat), .slice fa fz.length fc] 26)) w1.heap.size 26 #[.int .i64 (n : Nat), .slice fa fz.length fc] := World.alloc_heap_new _ _
  go_wp2_with fail
  replace R0 := Lib.hid (R0.out.step hba)
  replace R1 := Lib.hid (R1.out.step hba)
  replace HRF := Lib.hid (HRF.out.step hba)
  replace HBW := Lib.hid (chain HBW.out hba)
  have HXF := Lib.hid hx
  clear hba hx
  have hszF : (w1.alloc (.cells #[.int .i64 (n : Nat), .slice fa fz.length fc] 26)).heap.size = w1.heap.size + 1 := by simp
  generalize w1.alloc (.cells #[.int .i64 (n : Nat), .slice fa fz.length fc] 26) = w2 at *
  generalize w1.heap.size = Fo at *
  have aF0 := HXF.out.c0
  have aF1 := HXF.out.c1
  have aFl := HXF.out.lt
  clear aF0 aF1 aFl
  have hown0 : OwnI (w2.alloc (.cells #[] 2)) w2.heap.size (.slice (some ⟨w2.heap.size, 0, none⟩) 0 0) (List.replicate 0 1) := World.ownsRow_made w2 #[] 0 (Nat.le_refl _) (by unfold maxLen; omega) rfl
  have HBA := Lib.hid (al_b w2 (.cells #[] 2))
  rw [hszF] at hown0
  have HOW := Lib.hid hown0
  clear hown0
  generalize w2.alloc (.cells #[] 2) = wq at *
  generalize (Value.slice (some ⟨Fo + 1, 0, none⟩) 0 0) = v0 at *
  have HSZ := Lib.hid hszF
  clear hszF
  go_loopw [9, 10] (fun v i wi => ∃ j : Nat, j ≤ n ∧ i = .int .i64 (j : Nat) ∧ OwnI wi (Fo + 1) v (List.replicate j 1) ∧ Below w2.heap.size w2 wi)
    (fun _ i _ => n - (intOf i).toNat)
  case atStart => exact ⟨0, Nat.zero_le _, rfl, HOW.out, HBA.out⟩
  case round =>
    obtain ⟨j, hj, rfl, ho, hb⟩ := hrel
    have HOI := Lib.hid ho
    have HBI := Lib.hid hb
    have hsz := hb.size
    have hs9 := HSZ.out
    have HLR := Lib.hid (rep_len j)
    clear ho hb HOW HBA
    by_cases hlt : j < n
    · have hi0 : (j : Int) < (n : Int) := by omega
      go_wp2_with (at_builtin; refine wpList_append_own _ rfl _ _ 28 rfl (Fo + 1) 2 i0 (.int .i64 0) 1 8 Tryd.underlying28 hi hz0 hz1 hz2 rfl (by decide) _ _ _ rfl (World.ownsRow.alloc HOI.out _) ⟨wr.heap.size, 0, none⟩ 1 1 [.int .i64 1] rfl rfl (cell_one_new _ _ _) (by simp [Value.oneCell']) (by rw [HLR.out]; unfold maxLen; omega) (by rw [HLR.out]; omega) (by simp; omega) ?_; intro v' w9 hown9 hgrow9 _; have HOWN := Lib.hid hown9; have HGROW := Lib.hid hgrow9; clear hown9 hgrow9)
      go_wp2_with fail
      go_roundw
      case rel =>
        refine ⟨j + 1, by omega, by go_num, ?_, ?_⟩
        · unfold OwnI; rw [rep_snoc, List.length_replicate]; have h9 := HOWN.out; rw [HLR.out] at h9; exact h9
        · exact (HBI.out.alloc (by omega) _).grown HGROW.out (by simp; omega) (fun q hq => by have := (World.ownsRow.lt HOI.out q hq).1; omega)
      case measure => simp [intOf]; omega
    · have hi0 : ¬ (j : Int) < (n : Int) := by omega
      have hE : j = n := by omega
      subst hE
      obtain ⟨wa, wc, hv⟩ := rowForm HOI.out
      rw [HLR.out] at hv
      subst hv
      have HIW := Lib.hid (Ints_of_own HOI.out)
      have hb9 := HBI.out
      clear HOI HBI hs9
      replace R0 := Lib.hid (R0.out.step hb9)
      replace R1 := Lib.hid (R1.out.step hb9)
      replace HRF := Lib.hid (HRF.out.step hb9)
      replace HXF := Lib.hid (HXF.out.step hb9)
      replace HBW := Lib.hid (chain HBW.out hb9)
      clear hb9
      have aF0 := HXF.out.c0
      have aF1 := HXF.out.c1
      have aFl := HXF.out.lt
      go_wp2_with fail
      refine (wtdG wa wc (t : Int) wr n1 n7 (by omega) (by omega) HIW.out).mono ?_
      rintro e w3 ⟨⟨ua, uz, uc, rfl, hok, ht, hr⟩, hb⟩
      clear aF0 aF1 aFl
      replace R0 := Lib.hid (R0.out.step hb)
      replace R1 := Lib.hid (R1.out.step hb)
      replace HRF := Lib.hid (HRF.out.step hb)
      replace HXF := Lib.hid (HXF.out.step hb)
      replace HIW := Lib.hid (HIW.out.step hb)
      replace HBW := Lib.hid (chain HBW.out hb)
      have HOU := Lib.hid hok
      have HTU := Lib.hid ht
      have HRU := Lib.hid hr
      clear hb hok ht hr
      have hba := al_b w3 (.cells #[.int .i64 (j : Nat), .slice ua uz.length uc] 26)
      have hx : Boxes (w3.alloc (.cells #[.int .i64 (j : Nat), .slice ua uz.length uc] 26)) w3.heap.size 26 #[.int .i64 (j : Nat), .slice ua uz.length uc] := World.alloc_heap_new _ _
      have aF0 := HXF.out.c0
      have aF1 := HXF.out.c1
      have aFl := HXF.out.lt
      go_wp2_with fail
      clear aF0 aF1 aFl
      replace R0 := Lib.hid (R0.out.step hba)
      replace R1 := Lib.hid (R1.out.step hba)
      replace HRF := Lib.hid (HRF.out.step hba)
      replace HXF := Lib.hid (HXF.out.step hba)
      replace HIW := Lib.hid (HIW.out.step hba)
      replace HRU := Lib.hid (HRU.out.step hba)
      replace HBW := Lib.hid (chain HBW.out hba)
      have HXU := Lib.hid hx
      clear hba hx
      generalize w3.alloc (.cells #[.int .i64 (j : Nat), .slice ua uz.length uc] 26) = w4 at *
      generalize w3.heap.size = Uo at *
      have aF0 := HXF.out.c0
      have aF1 := HXF.out.c1
      have aFl := HXF.out.lt
      have aU0 := HXU.out.c0
      have aU1 := HXU.out.c1
      have aUl := HXU.out.lt
      refine (dualG fa fz fc w4 n1 n7 HOF.out HRF.out).mono ?_
      rintro e w5 ⟨⟨da, dz, dc, rfl, hok, ht, hr⟩, hb⟩
      clear aF0 aF1 aFl aU0 aU1 aUl
      replace R0 := Lib.hid (R0.out.step hb)
      replace R1 := Lib.hid (R1.out.step hb)
      replace HRF := Lib.hid (HRF.out.step hb)
      replace HXF := Lib.hid (HXF.out.step hb)
      replace HIW := Lib.hid (HIW.out.step hb)
      replace HRU := Lib.hid (HRU.out.step hb)
      replace HXU := Lib.hid (HXU.out.step hb)
      replace HBW := Lib.hid (chain HBW.out hb)
      have HOD := Lib.hid hok
      have HTD := Lib.hid ht
      have HRD := Lib.hid hr
      clear hb hok ht hr
      have hba := al_b w5 (.cells #[.int .i64 (j : Nat), .slice da dz.length dc] 26)
      have hx : Boxes (w5.alloc (.cells #[.int .i64 (j : Nat), .slice da dz.length dc] 26)) w5.heap.size 26 #[.int .i64 (j : Nat), .slice da dz.length dc] := World.alloc_heap_new _ _
      have aF0 := HXF.out.c0
      have aF1 := HXF.out.c1
      have aFl := HXF.out.lt
      have aU0 := HXU.out.c0
      have aU1 := HXU.out.c1
      have aUl := HXU.out.lt
      go_wp2_with fail
      clear aF0 aF1 aFl aU0 aU1 aUl
      replace R0 := Lib.hid (R0.out.step hba)
      replace R1 := Lib.hid (R1.out.step hba)
      replace HRF := Lib.hid (HRF.out.step hba)
      replace HXF := Lib.hid (HXF.out.step hba)
      replace HIW := Lib.hid (HIW.out.step hba)
      replace HRU := Lib.hid (HRU.out.step hba)
      replace HXU := Lib.hid (HXU.out.step hba)
      replace HRD := Lib.hid (HRD.out.step hba)
      replace HBW := Lib.hid (chain HBW.out hba)
      have HXD := Lib.hid hx
      clear hba hx
      generalize w5.alloc (.cells #[.int .i64 (j : Nat), .slice da dz.length dc] 26) = w6 at *
      generalize w5.heap.size = Do at *
      have aF0 := HXF.out.c0
      have aF1 := HXF.out.c1
      have aFl := HXF.out.lt
      have aU0 := HXU.out.c0
      have aU1 := HXU.out.c1
      have aUl := HXU.out.lt
      have aD0 := HXD.out.c0
      have aD1 := HXD.out.c1
      have aDl := HXD.out.lt
      refine (thrG ((j : Int) + 1 - (t : Int)) w6 n1 n7 (by omega) (by omega)).mono ?_
      rintro e w7 ⟨⟨ea, ez, ec, rfl, hok, ht, hr⟩, hb⟩
      clear aF0 aF1 aFl aU0 aU1 aUl aD0 aD1 aDl
      replace R0 := Lib.hid (R0.out.step hb)
      replace R1 := Lib.hid (R1.out.step hb)
      replace HRF := Lib.hid (HRF.out.step hb)
      replace HXF := Lib.hid (HXF.out.step hb)
      replace HIW := Lib.hid (HIW.out.step hb)
      replace HRU := Lib.hid (HRU.out.step hb)
      replace HXU := Lib.hid (HXU.out.step hb)
      replace HRD := Lib.hid (HRD.out.step hb)
      replace HXD := Lib.hid (HXD.out.step hb)
      replace HBW := Lib.hid (chain HBW.out hb)
      have HOE := Lib.hid hok
      have HTE := Lib.hid ht
      have HRE := Lib.hid hr
      clear hb hok ht hr
      have hba := al_b w7 (.cells #[.int .i64 (j : Nat), .slice ea ez.length ec] 26)
      have hx : Boxes (w7.alloc (.cells #[.int .i64 (j : Nat), .slice ea ez.length ec] 26)) w7.heap.size 26 #[.int .i64 (j : Nat), .slice ea ez.length ec] := World.alloc_heap_new _ _
      have aF0 := HXF.out.c0
      have aF1 := HXF.out.c1
      have aFl := HXF.out.lt
      have aU0 := HXU.out.c0
      have aU1 := HXU.out.c1
      have aUl := HXU.out.lt
      have aD0 := HXD.out.c0
      have aD1 := HXD.out.c1
      have aDl := HXD.out.lt
      go_wp2_with fail
      clear aF0 aF1 aFl aU0 aU1 aUl aD0 aD1 aDl
      replace R0 := Lib.hid (R0.out.step hba)
      replace R1 := Lib.hid (R1.out.step hba)
      replace HRF := Lib.hid (HRF.out.step hba)
      replace HXF := Lib.hid (HXF.out.step hba)
      replace HIW := Lib.hid (HIW.out.step hba)
      replace HRU := Lib.hid (HRU.out.step hba)
      replace HXU := Lib.hid (HXU.out.step hba)
      replace HRD := Lib.hid (HRD.out.step hba)
      replace HXD := Lib.hid (HXD.out.step hba)
      replace HRE := Lib.hid (HRE.out.step hba)
      replace HBW := Lib.hid (chain HBW.out hba)
      have HXE := Lib.hid hx
      clear hba hx
      generalize w7.alloc (.cells #[.int .i64 (j : Nat), .slice ea ez.length ec] 26) = w8 at *
      generalize w7.heap.size = Eo at *
      have aF0 := HXF.out.c0
      have aF1 := HXF.out.c1
      have aFl := HXF.out.lt
      have aU0 := HXU.out.c0
      have aU1 := HXU.out.c1
      have aUl := HXU.out.lt
      have aD0 := HXD.out.c0
      have aD1 := HXD.out.c1
      have aDl := HXD.out.lt
      have aE0 := HXE.out.c0
      have aE1 := HXE.out.c1
      have aEl := HXE.out.lt
      refine (alikeG fa fz fc w8 n7 HOF.out HRF.out).mono ?_
      rintro e w9 ⟨⟨la, lc, rfl, hli, hll⟩, hb⟩
      clear aF0 aF1 aFl aU0 aU1 aUl aD0 aD1 aDl aE0 aE1 aEl
      replace R0 := Lib.hid (R0.out.step hb)
      replace R1 := Lib.hid (R1.out.step hb)
      replace HRF := Lib.hid (HRF.out.step hb)
      replace HXF := Lib.hid (HXF.out.step hb)
      replace HIW := Lib.hid (HIW.out.step hb)
      replace HRU := Lib.hid (HRU.out.step hb)
      replace HXU := Lib.hid (HXU.out.step hb)
      replace HRD := Lib.hid (HRD.out.step hb)
      replace HXD := Lib.hid (HXD.out.step hb)
      replace HRE := Lib.hid (HRE.out.step hb)
      replace HXE := Lib.hid (HXE.out.step hb)
      replace HBW := Lib.hid (chain HBW.out hb)
      have HLI := Lib.hid hli
      have HLL := Lib.hid hll
      clear hb hli hll
      have HZE := Lib.hid (show ∀ i, i < j → nth (alN (tabOf (j : Int) fz) j j).1 i = 0 from fun i hi9 => by
        rw [alN_zero (fun a b hab hb => (alike_of n7).2 fun g hg => by
          rw [tabOf_at n7 hg, tabOf_at n7 (swp_lt2 (by omega) hb hg), HTF.out g hg, HTF.out _ (swp_lt2 (by omega) hb hg)]
          unfold thrB
          rw [swp_size g (by have := pow_128 n7; omega) a (by omega) b (by omega)]) j (Nat.le_refl _), nth_lt (by simp; exact hi9)]
        simp)
      generalize (alN (tabOf (j : Int) fz) j j).1 = al at *
      have aF0 := HXF.out.c0
      have aF1 := HXF.out.c1
      have aFl := HXF.out.lt
      have aU0 := HXU.out.c0
      have aU1 := HXU.out.c1
      have aUl := HXU.out.lt
      have aD0 := HXD.out.c0
      have aD1 := HXD.out.c1
      have aDl := HXD.out.lt
      have aE0 := HXE.out.c0
      have aE1 := HXE.out.c1
      have aEl := HXE.out.lt
      go_wp2_with fail
      have HE1 := Lib.hid (show fz = uz from fam_ext n7 HOF.out HOU.out fun y hy => by rw [HTF.out y hy, HTU.out y hy])
      refine (sameG fa ua fz uz fc uc w9 n7 HOF.out HOU.out HRF.out HRU.out HE1.out).mono ?_
      rintro e w10 ⟨rfl, hb⟩
      clear aF0 aF1 aFl aU0 aU1 aUl aD0 aD1 aDl aE0 aE1 aEl
      replace R0 := Lib.hid (R0.out.step hb)
      replace R1 := Lib.hid (R1.out.step hb)
      replace HRF := Lib.hid (HRF.out.step hb)
      replace HXF := Lib.hid (HXF.out.step hb)
      replace HIW := Lib.hid (HIW.out.step hb)
      replace HRU := Lib.hid (HRU.out.step hb)
      replace HXU := Lib.hid (HXU.out.step hb)
      replace HRD := Lib.hid (HRD.out.step hb)
      replace HXD := Lib.hid (HXD.out.step hb)
      replace HRE := Lib.hid (HRE.out.step hb)
      replace HXE := Lib.hid (HXE.out.step hb)
      replace HLI := Lib.hid (HLI.out.step hb)
      replace HBW := Lib.hid (chain HBW.out hb)
      clear hb
      have aF0 := HXF.out.c0
      have aF1 := HXF.out.c1
      have aFl := HXF.out.lt
      have aU0 := HXU.out.c0
      have aU1 := HXU.out.c1
      have aUl := HXU.out.lt
      have aD0 := HXD.out.c0
      have aD1 := HXD.out.c1
      have aDl := HXD.out.lt
      have aE0 := HXE.out.c0
      have aE1 := HXE.out.c1
      have aEl := HXE.out.lt
      go_wp2_with fail
      have HE2 := Lib.hid (show dz = ez from fam_ext n7 HOD.out HOE.out fun y hy => by
        rw [HTD.out y hy, HTE.out y hy]
        unfold dualB
        rw [HTF.out _ (by omega)]
        unfold thrB
        have h := off_size j (by omega) y (by have := pow_128 n7; omega) hy
        by_cases hd : (t : Int) ≤ ((listOf (2 ^ j - 1 - y)).length : Nat)
        · rw [decide_eq_true hd, decide_eq_false (by omega)]; rfl
        · rw [decide_eq_false hd, decide_eq_true (by omega)]; rfl)
      refine (sameG da ea dz ez dc ec w10 n7 HOD.out HOE.out HRD.out HRE.out HE2.out).mono ?_
      rintro e w11 ⟨rfl, hb⟩
      clear aF0 aF1 aFl aU0 aU1 aUl aD0 aD1 aDl aE0 aE1 aEl
      replace R0 := Lib.hid (R0.out.step hb)
      replace R1 := Lib.hid (R1.out.step hb)
      replace HRF := Lib.hid (HRF.out.step hb)
      replace HXF := Lib.hid (HXF.out.step hb)
      replace HIW := Lib.hid (HIW.out.step hb)
      replace HRU := Lib.hid (HRU.out.step hb)
      replace HXU := Lib.hid (HXU.out.step hb)
      replace HRD := Lib.hid (HRD.out.step hb)
      replace HXD := Lib.hid (HXD.out.step hb)
      replace HRE := Lib.hid (HRE.out.step hb)
      replace HXE := Lib.hid (HXE.out.step hb)
      replace HLI := Lib.hid (HLI.out.step hb)
      replace HBW := Lib.hid (chain HBW.out hb)
      clear hb
      have aF0 := HXF.out.c0
      have aF1 := HXF.out.c1
      have aFl := HXF.out.lt
      have aU0 := HXU.out.c0
      have aU1 := HXU.out.c1
      have aUl := HXU.out.lt
      have aD0 := HXD.out.c0
      have aD1 := HXD.out.c1
      have aDl := HXD.out.lt
      have aE0 := HXE.out.c0
      have aE1 := HXE.out.c1
      have aEl := HXE.out.lt
      go_wp2_with fail
      clear aF0 aF1 aFl aU0 aU1 aUl aD0 aD1 aDl aE0 aE1 aEl
      refine (a2Zeros_any la al lc j w11 HLI.out HLL.out (by omega) HZE.out).mono ?_
      rintro e w' ⟨rfl, rfl⟩
      go_wp2_with fail
      go_ret
      exact ⟨rfl, HBW.out⟩

end Thresh
end Go.Proofs.YteifllengcacbaaDoor

namespace Go.Proofs.YteifllengcacbaaDoor
open Go.ChangeShapes Go.WideShapes Go.ChangeAt Go.RowKit Go.Deep
set_option linter.unusedVariables false
namespace Thresh


theorem door_met (os : Os) (args : Array Value) : laidMetH Tryd.prog Rows.fnThresholdRow.laid ((World.doorLaid Tryd.prog 62 os).forCall (fun _ _ => 0) ⟨#[], args, []⟩).memory :=
  laidMetH_of_parts3 (fuel := 8) (laidMet_of_run' 8 (by kernel_rfl) (by kernel_rfl)) (by kernel_rfl) (by kernel_rfl)

set_option maxRecDepth 100000 in
set_option maxHeartbeats 100000000 in
theorem lifted (os : Os) (started : os.Started) (H : Type) (enc : TypeId × Value → H) :
    ReturnsInHanded {} Tryd.checked os 10 .any (fun w args => (Rows.fnThresholdSpec.pre enc Tryd.prog Tryd.f10 [] false w args ∧ laidMetH Tryd.prog Rows.fnThresholdRow.laid w) ∧ sizedMet enc Tryd.prog Tryd.f10 (OpenSpec.ofChange Rows.fnThresholdSpec) false w args)
      (Rows.fnThresholdSpec.post enc Tryd.prog Tryd.f10 false true false false) := by
  refine returnsInHanded_of_change_and (C := Tryd.checked) (X := fun w _ => laidMetH Tryd.prog Rows.fnThresholdRow.laid w) (fun _ _ _ hh h => h.of_heap hh) CardP.own started (by kernel_rfl) Tryd.func10
    (ChangeSpec.witness_shaped (enc := enc) (C := Tryd.checked) (os := os) (X := fun w _ => laidMetH Tryd.prog Rows.fnThresholdRow.laid w) false (World.doorLaid Tryd.prog 62 os) #[.slice none 0 0, .slice none 0 0] 8 rfl (World.shaped_of_RefB (by kernel_rfl) (by kernel_rfl)) (by kernel_rfl) (by kernel_rfl) (by kernel_rfl) (door_met os _)) ?_
  intro W base args ds gs before hval0 hW _ _ hL _
  have hval : ∀ (j : Nat) t v, Tryd.f10.params[j]? = some t → args[j]? = some v → Value.okWide Tryd.prog W .any base t v := hval0
  have hW' := hW
  obtain ⟨p, q, hA0, hV, rfl, hfz, hnd⟩ := hW
  have hA : DataW.TrodAll enc Tryd.prog W 0 (fun _ => true) true Tryd.f10.params.toList args.toList ds p := hA0
  rw [Tryd.params10] at hA hval
  obtain ⟨v0, vs0, d0, ds0, p0, q0, hargs, rfl, rfl, h0, r0⟩ := trodAll_cons hA
  obtain ⟨v1, vs1, d1, ds1, p1, q1, rfl, rfl, rfl, h1, r1⟩ := trodAll_cons r0
  obtain ⟨rfl, rfl, rfl⟩ := trodAll_nil r1
  obtain rfl : args = #[v0, v1] := by cases args; simp_all
  obtain ⟨rfl, rfl⟩ := trodVars_none hV
  have k0 := h0
  have lt0 : ∀ x ∈ p0, x.block < W.heap.size := by obtain ⟨m, hm⟩ := k0; exact DataW.trod_lt m _ _ _ hm
  obtain ⟨a0, len0, c0, rfl⟩ := okWide_slice Tryd.underlying22 (hval 0 22 v0 rfl rfl)
  obtain ⟨fuel0, hf0⟩ := h0
  obtain ⟨z0, rfl, rr0, ll0⟩ := open_bytes1 (by simpa [Value.cells] using hf0)
  have k1 := h1
  have lt1 : ∀ x ∈ p1, x.block < W.heap.size := by obtain ⟨m, hm⟩ := k1; exact DataW.trod_lt m _ _ _ hm
  obtain ⟨a1, len1, c1, rfl⟩ := okWide_slice Tryd.underlying22 (hval 1 22 v1 rfl rfl)
  obtain ⟨fuel1, hf1⟩ := h1
  obtain ⟨z1, rfl, rr1, ll1⟩ := open_bytes1 (by simpa [Value.cells] using hf1)
  clear hA0 hval0
  refine (law a0 z0 c0 a1 z1 c1 W rr0 ll0 rr1 ll1).mono fun e W' ⟨he, bel⟩ => ?_
  subst he
  exact ⟨_, rfl, _, _, _, [], _, [], hW', trodAll_mk1 (shut_bool Tryd.underlying4 _), (trodAll_cons_mk (Below.trod CardP.laidOut (by kernel_rfl) (of_decide_eq_true (by kernel_rfl)) k0 bel lt0) (trodAll_cons_mk (Below.trod CardP.laidOut (by kernel_rfl) (of_decide_eq_true (by kernel_rfl)) k1 bel lt1) trodAll_mk0)), rfl, bel.frame _, fun h => by cases h⟩


end Thresh
end Go.Proofs.YteifllengcacbaaDoor

namespace Go.Proofs.YteifllengcacbaaDoor
open Go.ChangeShapes Go.WideShapes Go.ChangeAt Go.RowKit Go.Deep
set_option linter.unusedVariables false
namespace Thresh

theorem over : Rows.fnThresholdRow.holds Tryd.pinned (OpenSpec.ofChange Rows.fnThresholdSpec) :=
  OpenClaim.holds_of_wide 10 Tryd.f10 rfl rfl rfl rfl rfl rfl rfl ⟨rfl, rfl, rfl, rfl, rfl⟩ rfl rfl rfl rfl rfl (by kernel_rfl) Tryd.func10 closed
    (of_decide_eq_true (by kernel_rfl)) (by unfold Func.isWrapper; first | (rw [if_pos (by decide +kernel)]; kernel_rfl) | (rw [if_neg (by decide +kernel)]; exact ⟨rfl, rfl⟩))
    (fun os started H enc _ => lifted os started H enc)

theorem said : Rows.FnThresholdSaid := over

end Thresh
end Go.Proofs.YteifllengcacbaaDoor

namespace Go.Proofs.YteifllengcacbaaDoor
open Go.ChangeShapes Go.WideShapes Go.ChangeAt Go.RowKit Go.Deep
set_option linter.unusedVariables false
namespace Thresh

theorem plain (f : FuncId) (fn : Func) (hf : Tryd.pinned.checked.prog.funcNamed "loop.example/g01117/laws.FnThreshold" = some f) (hfn : Tryd.pinned.checked.prog.funcs[f]? = some fn) :
    false = Tryd.pinned.checked.prog.looks [] ∧ ∀ (j : Nat) t, fn.params[j]? = some t → Tryd.pinned.checked.prog.wantsStandIn t = false := by
  obtain rfl : f = 10 := Option.some.inj (c_named.symm.trans hf) |>.symm
  obtain rfl : fn = Tryd.f10 := (Option.some.inj (Tryd.func10.symm.trans hfn)).symm
  refine ⟨CardP.looks, fun j t ht => ?_⟩
  rw [Tryd.params10] at ht
  have hm : t ∈ [22, 22] := by simpa using Array.mem_of_getElem? ht
  have hall := c_stand
  exact (show Tryd.prog.wantsStandIn t = false by simpa using List.all_eq_true.1 hall t hm)

theorem card : Rows.FnThresholdCardSaid :=
  Claim7.holds_tied_plain_at .later [] _ _ _ _ said (fun _ h => by cases h) c_wf (fun _ h => by cases h) fnThreshold_row_tie rfl ⟨rfl, rfl⟩ c_main rfl plain c_goes

end Thresh
end Go.Proofs.YteifllengcacbaaDoor
