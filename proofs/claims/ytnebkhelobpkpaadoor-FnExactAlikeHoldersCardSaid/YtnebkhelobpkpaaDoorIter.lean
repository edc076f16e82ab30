/- The iterator over the groups of so many holders: yieldFrom, groupsOf. -/
import Derived.Test.YtnebkhelobpkpaaDoorSet
import Derived.RangeFuncKeeps
import Derived.RangeFuncNested
import Derived.RangeFuncBound
import Derived.RangeFuncCalls
import Derived.RangeFuncLeaves
import Derived.Shelf.Abstract
import Derived.OwnWalkIn
import Derived.TacticsInMore
import Derived.LoopNIn
import Derived.LoopIn
namespace Go.Proofs.YtnebkhelobpkpaaDoor
open Go.RowKit Go.Deep Go.Shelf
set_option linter.unusedVariables false
attribute [local go_sem] Oper.semAt_some

abbrev G7 := Fin 128
def encG (x : G7) : Array Value := #[.int .u64 (x.val : Int)]
def putF (g : G7) (h : Nat) : G7 := ⟨(g.val ||| 2 ^ h) % 128, Nat.mod_lt _ (by decide)⟩
/-- The groups that have g and further holders, d of them from f on, in lexicographic order; g itself left out. -/
def rest : Nat → G7 → Nat → List G7
  | 0, _, _ => []
  | d + 1, g, f => (putF g f :: rest d (putF g f) (f + 1)) ++ rest d g (f + 1)
def lexAll (h : Nat) : List G7 := ⟨0, by decide⟩ :: rest h ⟨0, by decide⟩ 0

theorem YieldAt.anyRoom {F : Fence} (hd : F.depth = none) {m : Nat} (m' : Nat) {P : Program} {l : Nat} {args : Array Value} {W : World} {R : Ending → World → Prop} (h : YieldAt F m P l args W R) : YieldAt F m' P l args W R := by
  obtain ⟨fn, tmps, assign, body, hy, hR⟩ := h
  exact ⟨fn, tmps, assign, body, hy, hR.1, fun c cs _ => hR.2 c cs (fun d h => by rw [hd] at h; cases h)⟩

theorem putF_val (g : G7) {h : Nat} (hh : h < 7) : (putF g h).val = g.val ||| 2 ^ h :=
  Nat.mod_eq_of_lt (Nat.or_lt_two_pow (n := 7) g.isLt (Nat.pow_lt_pow_right (by omega) hh))

set_option maxRecDepth 100000 in
set_option maxHeartbeats 2000000 in
theorem yieldFrom_in (l N : Nat) (J Jx : List G7 → World → Prop)
    (hY : ∀ m pre x W, J pre W → pre.length < N → YieldAt Fence.wide m Tryd.prog l (encG x) W fun e W' =>
      (e = .returned (.bool true) ∧ J (pre ++ [x]) W') ∨ (e = .returned (.bool false) ∧ Jx (pre ++ [x]) W')) (d : Nat) :
    ∀ (n f h : Nat) (g : G7) (pre : List G7) (W : World), f + d = h → h ≤ 7 → J pre W → pre.length + (rest d g f).length + 1 ≤ N →
      CallsIn Fence.wide n Tryd.prog 127 #[.int .u64 (g.val : Int), .int .i64 (f : Nat), .int .i64 (h : Nat), .func (.yield l) #[] #[]] W fun e W' =>
        (e = .returned (.bool true) ∧ J (pre ++ g :: rest d g f) W') ∨ (e = .returned (.bool false) ∧ ∃ q, q <+: g :: rest d g f ∧ Jx (pre ++ q) W') := by
  induction d using Nat.strongRecOn with
  | _ d ih =>
    intro n f h g pre W hfd hh hJ hN
    have hfh : f ≤ h := by omega
    have HFD := Lib.hid hfd
    clear hfd
    have hg := g.isLt
    obtain ⟨fn, tmps, assign, body, hy, hR⟩ := hY (n - 1) pre g W hJ (by omega)
    dsimp only [encG] at hy
    have IH := Lib.hid ih
    have HJ := Lib.hid hJ
    have HN := Lib.hid hN
    clear ih hY hJ hN
    refine callsIn_of_wp Tryd.func127 rfl trivial ?_ rfl
    simp only [Tryd.ntmps127, List.size_toArray, List.length_cons, List.length_nil, Nat.reduceAdd, Nat.reduceSub, Array.replicate_succ, Array.replicate_zero, List.push_toArray, List.append_toArray, List.nil_append, List.cons_append]
    have hdd : ∀ k : Nat, (Fence.wide.depth.isSome = true → 1 ≤ k) := fun k h => by cases h
    gi_wp2_with (first
      | ((try refine ⟨hdd _, ?_⟩); refine hR.mono ?_; clear hR; rintro e W2 (⟨rfl, hJ2⟩ | ⟨rfl, hx2⟩)))
    · gi_loopw [9] (fun i wr => ∃ k : Nat, f ≤ k ∧ k ≤ h ∧ i = .int .i64 (k : Nat) ∧ ∃ done, rest d g f = done ++ rest (h - k) g k ∧ J (pre ++ g :: done) wr)
        (fun i _ => h - (intOf i).toNat)
      case atStart => exact ⟨f, Nat.le_refl _, hfh, rfl, [], by rw [show h - f = d by have := HFD.out; omega]; rfl, hJ2⟩
      case round =>
        obtain ⟨k, hk0, hk1, rfl, done, hd, hJk⟩ := hrel
        have HD := Lib.hid hd
        clear hd hJ2
        by_cases hlt : k < h
        · have hp := putF_val g (show k < 7 by omega)
          have hst : rest (h - k) g k = (putF g k :: rest (h - k - 1) (putF g k) (k + 1)) ++ rest (h - k - 1) g (k + 1) := by
            rw [show h - k = (h - k - 1) + 1 by omega]; rfl
          have hlen : (pre ++ g :: done).length + (rest (h - k - 1) (putF g k) (k + 1)).length + 1 ≤ N := by
            have h1 := HN.out
            rw [HD.out, hst] at h1
            simp only [List.length_append, List.length_cons] at h1 ⊢
            omega
          have ih1 := IH.out (h - k - 1) (by have := HFD.out; omega) (n - 1) (k + 1) h (putF g k) (pre ++ g :: done) wr (by omega) hh hJk hlen
          have IH1 := Lib.hid ih1
          have HP := Lib.hid hp
          have HST := Lib.hid hst
          clear hlen ih1 hp hst hJk
          gi_wp2_with (first
            | (refine ⟨trivial, hdd _, ?_⟩; gi_at_call 55; refine (callsIn_wide.2 (with_any g.val k wr hg (by omega) (by omega))).mono ?_; rintro e W3 ⟨rfl, rfl⟩)
            | (refine ⟨trivial, hdd _, ?_⟩; gi_at_call 127; go_loud (rw [← HP.out]); go_loud (refine IH1.out.mono ?_); rintro e W4 (⟨rfl, hJ4⟩ | ⟨rfl, q, hq, hx4⟩)))
          · refine ⟨⟨k + 1, by omega, by omega, by go_num, done ++ putF g k :: rest (h - k - 1) (putF g k) (k + 1), ?_, ?_⟩, by simp [intOf]; omega⟩
            · rw [HD.out, HST.out, show h - (k + 1) = h - k - 1 by omega]; simp
            · simpa using hJ4
          · go_ret
            refine .inr ⟨rfl, g :: done ++ q, ?_, by simpa using hx4⟩
            obtain ⟨r, hr⟩ := hq
            refine ⟨r ++ rest (h - k - 1) g (k + 1), ?_⟩
            rw [HD.out, HST.out, ← hr]
            simp
        · have hk : k = h := by omega
          have HK := Lib.hid hk
          clear hk
          gi_wp2
          go_ret
          refine .inl ⟨rfl, ?_⟩
          have h1 := HD.out
          rw [HK.out, Nat.sub_self, show rest 0 g h = [] from rfl, List.append_nil] at h1
          rw [h1]; exact hJk
    · go_ret
      exact .inr ⟨rfl, [g], ⟨rest d g f, rfl⟩, hx2⟩

set_option maxRecDepth 100000 in
set_option maxHeartbeats 1000000 in
/-- 'groupsOf' gives an iterator: the number of holders lies in a box. -/
theorem groupsOf_any (h : Int) (w : World) : Calls Tryd.prog 81 #[.int .i64 h] w fun e w' => e = .returned (.func (.func 126) #[] #[.pointer (some ⟨w.heap.size, 0, none⟩)]) ∧ w' = w.alloc (.cells #[.int .i64 h] 2) := by
  go_enter Tryd.func81, Tryd.ntmps81
  go_wp2
  go_ret
  exact ⟨rfl, rfl⟩

set_option maxRecDepth 100000 in
set_option maxHeartbeats 1000000 in
/-- The iterator: all groups in lexicographic order; or a beginning of them. -/
theorem groups_stops (n h B : Nat) (w : World) (hh : h ≤ 7) (hB : B < w.heap.size) (hc : w.cell? ⟨B, 0, none⟩ = some (.int .i64 (h : Nat))) :
    SeqStopsK Fence.wide n Tryd.prog 126 #[.pointer (some ⟨B, 0, none⟩)] encG (fun _ _ => True) (fun ys => ys = lexAll h) (fun pre => pre <+: lexAll h) (lexAll h).length w := by
  intro l J Jx W hW _ _ hY h0
  have hdd : ∀ k : Nat, (Fence.wide.depth.isSome = true → 1 ≤ k) := fun k h => by cases h
  have hc' := (hW.cell (p := ⟨B, 0, none⟩) hB).trans hc
  have hp := yieldFrom_in l (lexAll h).length J Jx (fun m pre x W1 hj hl => YieldAt.mono (YieldAt.anyRoom rfl m (hY pre x W1 hj hl)) (fun e W2 hq => hq.elim (fun ⟨he, hj2, _⟩ => .inl ⟨he, hj2⟩) .inr)) h (n - 1) 0 h ⟨0, by decide⟩ [] W (by omega) hh h0 (by simp [lexAll])
  have HP := Lib.hid hp
  clear hp hY hW h0
  refine callsIn_of_wp Tryd.func126 rfl trivial ?_ rfl
  simp only [Tryd.ntmps126, List.size_toArray, List.length_cons, List.length_nil, Nat.reduceAdd, Nat.reduceSub, Array.replicate_succ, Array.replicate_zero, List.push_toArray, List.append_toArray, List.nil_append, List.cons_append]
  gi_wp2_with (refine ⟨trivial, hdd _, ?_⟩; gi_at_call 127; go_loud (refine HP.out.mono ?_); rintro e W1 (⟨rfl, hJ1⟩ | ⟨rfl, q, hq, hx⟩))
  · go_end0
    exact ⟨⟨_, rfl⟩, .inl ⟨_, rfl, by simpa [lexAll] using hJ1⟩⟩
  · go_end0
    exact ⟨⟨_, rfl⟩, .inr ⟨q, hq, by simpa using hx⟩⟩
end Go.Proofs.YtnebkhelobpkpaaDoor
