/- The iterator over the groups of so many holders, that tells that each group is one of them. -/
import Derived.Test.YteifllengcacbaaDoorIter
import Derived.Test.YteifllengcacbaaDoorLex
namespace Go.Proofs.YteifllengcacbaaDoor
open Go.RowKit Go.Deep Go.Shelf
set_option linter.unusedVariables false
attribute [local go_sem] Oper.semAt_some

/-- The group itself, if it is one of so many holders. -/
def clipG (h : Nat) (x : G7) : G7 := if x.val < 2 ^ h then x else ⟨0, by decide⟩
theorem clipG_lt (h : Nat) (x : G7) : (clipG h x).val < 2 ^ h := by
  unfold clipG
  split
  · assumption
  · exact Nat.pow_pos (by decide)
theorem clipG_of {h : Nat} {x : G7} (hx : x.val < 2 ^ h) : clipG h x = x := by rw [clipG, if_pos hx]
theorem clip_lex {h : Nat} (h7 : h ≤ 7) : (lexAll h).map (clipG h) = lexAll h := by
  refine (List.map_congr_left fun x hx => ?_).trans (List.map_id _)
  exact clipG_of ((mem_lex h7 x).1 hx)
def encC (h : Nat) (x : G7) : Array Value := #[.int .u64 ((clipG h x).val : Int)]
theorem encC_of {h : Nat} {x : G7} (hx : x.val < 2 ^ h) : encC h x = encG x := by rw [encC, clipG_of hx]; rfl

set_option maxRecDepth 100000 in
set_option maxHeartbeats 2000000 in
theorem yieldFromC_in (l N H : Nat) (J Jx : List G7 → World → Prop)
    (hY : ∀ m pre x W, x.val < 2 ^ H → J pre W → pre.length < N → YieldAt Fence.wide m Tryd.prog l (encG x) W fun e W' =>
      (e = .returned (.bool true) ∧ J (pre ++ [x]) W') ∨ (e = .returned (.bool false) ∧ Jx (pre ++ [x]) W')) (d : Nat) :
    ∀ (n f h : Nat) (g : G7) (pre : List G7) (W : World), h = H → g.val < 2 ^ H → f + d = h → h ≤ 7 → J pre W → pre.length + (rest d g f).length + 1 ≤ N →
      CallsIn Fence.wide n Tryd.prog 88 #[.int .u64 (g.val : Int), .int .i64 (f : Nat), .int .i64 (h : Nat), .func (.yield l) #[] #[]] W fun e W' =>
        (e = .returned (.bool true) ∧ J (pre ++ g :: rest d g f) W') ∨ (e = .returned (.bool false) ∧ ∃ q, q <+: g :: rest d g f ∧ Jx (pre ++ q) W') := by
  induction d using Nat.strongRecOn with
  | _ d ih =>
    intro n f h g pre W hHe hgl hfd hh hJ hN
    have HHE := Lib.hid hHe
    have HGL := Lib.hid hgl
    have hfh : f ≤ h := by omega
    have HFD := Lib.hid hfd
    clear hfd
    have hg := g.isLt
    obtain ⟨fn, tmps, assign, body, hy, hR⟩ := hY (n - 1) pre g W hgl hJ (by omega)
    clear hHe hgl
    dsimp only [encG] at hy
    have IH := Lib.hid ih
    have HJ := Lib.hid hJ
    have HN := Lib.hid hN
    clear ih hY hJ hN
    refine callsIn_of_wp Tryd.func88 rfl trivial ?_ rfl
    simp only [Tryd.ntmps88, List.size_toArray, List.length_cons, List.length_nil, Nat.reduceAdd, Nat.reduceSub, Array.replicate_succ, Array.replicate_zero, List.push_toArray, List.append_toArray, List.nil_append, List.cons_append]
    have hdd : ∀ k : Nat, (Fence.wide.depth.isSome = true → 1 ≤ k) := fun k h => by cases h
    gi_wp2_with (first
      | ((try refine ⟨hdd _, ?_⟩); refine hR.mono ?_; clear hR; rintro e W2 (⟨rfl, hJ2⟩ | ⟨rfl, hx2⟩)))
    · gi_loopw [9] (fun i wr => ∃ k : Nat, f ≤ k ∧ k ≤ h ∧ i = .int .i64 (k : Nat) ∧ ∃ done, rest d g f = done ++ rest (h - k) g k ∧ J (pre ++ g :: done) wr)
        (fun i _ => h - (intOf i).toNat)
      case atStart => exact ⟨f, Nat.le_refl _, hfh, rfl, [], by rw [show h - f = d by have := HFD.out; omega]; rfl, hJ2⟩
      case round =>
        obtain ⟨k, hk0, hk1, rfl, done, hd, hJk⟩ := hrel
        have HD := Lib.hid hd
        clear hd hJ2
        by_cases hlt : k < h
        · have hp := putF_val g (show k < 7 by omega)
          have hst : rest (h - k) g k = (putF g k :: rest (h - k - 1) (putF g k) (k + 1)) ++ rest (h - k - 1) g (k + 1) := by
            rw [show h - k = (h - k - 1) + 1 by omega]; rfl
          have hlen : (pre ++ g :: done).length + (rest (h - k - 1) (putF g k) (k + 1)).length + 1 ≤ N := by
            have h1 := HN.out
            rw [HD.out, hst] at h1
            simp only [List.length_append, List.length_cons] at h1 ⊢
            omega
          have ih1 := IH.out (h - k - 1) (by have := HFD.out; omega) (n - 1) (k + 1) h (putF g k) (pre ++ g :: done) wr HHE.out (by rw [putF_val g (show k < 7 by omega), ← HHE.out]; have hgl := HGL.out; rw [← HHE.out] at hgl; exact Nat.or_lt_two_pow hgl (Nat.pow_lt_pow_right (by omega) hlt)) (by omega) hh hJk hlen
          have IH1 := Lib.hid ih1
          have HP := Lib.hid hp
          have HST := Lib.hid hst
          clear hlen ih1 hp hst hJk
          gi_wp2_with (first
            | (refine ⟨trivial, hdd _, ?_⟩; gi_at_call 61; refine (callsIn_wide.2 (with_any g.val k wr hg (by omega) (by omega))).mono ?_; rintro e W3 ⟨rfl, rfl⟩)
            | (refine ⟨trivial, hdd _, ?_⟩; gi_at_call 88; go_loud (rw [← HP.out]); go_loud (refine IH1.out.mono ?_); rintro e W4 (⟨rfl, hJ4⟩ | ⟨rfl, q, hq, hx4⟩)))
          · refine ⟨⟨k + 1, by omega, by omega, by go_num, done ++ putF g k :: rest (h - k - 1) (putF g k) (k + 1), ?_, ?_⟩, by simp [intOf]; omega⟩
            · rw [HD.out, HST.out, show h - (k + 1) = h - k - 1 by omega]; simp
            · simpa using hJ4
          · go_ret
            refine .inr ⟨rfl, g :: done ++ q, ?_, by simpa using hx4⟩
            obtain ⟨r, hr⟩ := hq
            refine ⟨r ++ rest (h - k - 1) g (k + 1), ?_⟩
            rw [HD.out, HST.out, ← hr]
            simp
        · have hk : k = h := by omega
          have HK := Lib.hid hk
          clear hk
          gi_wp2
          go_ret
          refine .inl ⟨rfl, ?_⟩
          have h1 := HD.out
          rw [HK.out, Nat.sub_self, show rest 0 g h = [] from rfl, List.append_nil] at h1
          rw [h1]; exact hJk
    · go_ret
      exact .inr ⟨rfl, [g], ⟨rest d g f, rfl⟩, hx2⟩

set_option maxRecDepth 100000 in
set_option maxHeartbeats 1000000 in
/-- The iterator: all groups in lexicographic order; or a beginning of them. -/
theorem groupsC_stops (n h B : Nat) (w : World) (hh : h ≤ 7) (hB : B < w.heap.size) (hc : w.cell? ⟨B, 0, none⟩ = some (.int .i64 (h : Nat))) :
    SeqStopsK Fence.wide n Tryd.prog 87 #[.pointer (some ⟨B, 0, none⟩)] (encC h) (fun _ _ => True) (fun ys => ys = lexAll h) (fun pre => pre <+: lexAll h) (lexAll h).length w := by
  intro l J Jx W hW _ _ hY h0
  have hdd : ∀ k : Nat, (Fence.wide.depth.isSome = true → 1 ≤ k) := fun k h => by cases h
  have hc' := (hW.cell (p := ⟨B, 0, none⟩) hB).trans hc
  have hp := yieldFromC_in l (lexAll h).length h J Jx (fun m pre x W1 hxl hj hl => YieldAt.mono (YieldAt.anyRoom rfl m (encC_of hxl ▸ hY pre x W1 hj hl)) (fun e W2 hq => hq.elim (fun ⟨he, hj2, _⟩ => .inl ⟨he, hj2⟩) .inr)) h (n - 1) 0 h ⟨0, by decide⟩ [] W rfl (Nat.pow_pos (by decide)) (by omega) hh h0 (by simp [lexAll])
  have HP := Lib.hid hp
  clear hp hY hW h0
  refine callsIn_of_wp Tryd.func87 rfl trivial ?_ rfl
  simp only [Tryd.ntmps87, List.size_toArray, List.length_cons, List.length_nil, Nat.reduceAdd, Nat.reduceSub, Array.replicate_succ, Array.replicate_zero, List.push_toArray, List.append_toArray, List.nil_append, List.cons_append]
  gi_wp2_with (refine ⟨trivial, hdd _, ?_⟩; gi_at_call 88; go_loud (refine HP.out.mono ?_); rintro e W1 (⟨rfl, hJ1⟩ | ⟨rfl, q, hq, hx⟩))
  · go_end0
    exact ⟨⟨_, rfl⟩, .inl ⟨_, rfl, by simpa [lexAll] using hJ1⟩⟩
  · go_end0
    exact ⟨⟨_, rfl⟩, .inr ⟨q, hq, by simpa using hx⟩⟩
end Go.Proofs.YteifllengcacbaaDoor
