/- unless, checkResidues, checkCurves of the program. -/
import Derived.Test.YtgndekojodpmkaaDoorCod
import Derived.Test.YtgndekojodpmkaaDoorVc
import Derived.BigQuiet
namespace Go.Proofs.YtgndekojodpmkaaDoor
open Go.RowKit Go.Deep
set_option linter.unusedVariables false

set_option maxRecDepth 100000 in
theorem unless_any (b : Bool) (e : Value) (w : World) : Calls Tryd.prog 85 #[.bool b, e] w fun x w' => x = .returned (if b = true then .nilIface else e) ∧ w = w' := by
  cases b
  · go_enter Tryd.func85, Tryd.ntmps85
    go_wp2
    go_ret
    exact ⟨rfl, rfl⟩
  · go_enter Tryd.func85, Tryd.ntmps85
    go_wp2
    go_ret
    exact ⟨rfl, rfl⟩

/-- The error of residues. -/
noncomputable def resE (ai ar : Addr) (p : Int) (zs : List Int) : Option Addr := if tell (Prm p) = true then (if tell (Elems p zs) = true then none else some ar) else some ai
theorem resE_no (ai ar : Addr) {p : Int} (zs : List Int) (h : ¬ Prm p) : resE ai ar p zs = some ai := by unfold resE; rw [tell_false h]; rfl
theorem resE_yes (ai ar : Addr) {p : Int} {zs : List Int} (h : Prm p) (k : Elems p zs) : resE ai ar p zs = none := by unfold resE; rw [tell_true h, tell_true k]; rfl
theorem resE_out (ai ar : Addr) {p : Int} {zs : List Int} (h : Prm p) (k : ¬ Elems p zs) : resE ai ar p zs = some ar := by unfold resE; rw [tell_true h, tell_false k]; rfl

set_option maxRecDepth 100000 in
set_option maxHeartbeats 400000 in
theorem checkResidues_any (p : Int) (a : Option Addr) (zs : List Int) (c : Nat) (ai ar : Addr) (w : World) (h : Ints w a zs) (hl : zs.length ≤ 9223372036854775807) (hi : Sent w 0 ai) (hr : Sent w 2 ar) :
    Calls Tryd.prog 49 #[.int .i64 p, .slice a zs.length c] w fun e w' => e = .returned (errV (resE ai ar p zs)) ∧ Quiet w w' := by
  have HI := Lib.hid h
  have ci := hi.cell
  have cr := hr.cell
  clear h hi hr
  by_cases hp : Prm p
  case neg =>
    have HT := Lib.hid (tell_false hp)
    have HE := Lib.hid (resE_no ai ar zs hp)
    clear hp cr
    go_enter Tryd.func49, Tryd.ntmps49
    go_wp2_with fail
    refine (implPrime_any p _).mono ?_
    rintro e w' ⟨rfl, rfl⟩
    rw [HT.out]
    go_wp2
    go_ret
    exact ⟨by rw [HE.out]; rfl, Quiet.refl _⟩
  have HT := Lib.hid (tell_true hp)
  have HU : ∃ u : Bool, tell (Elems p zs ∧ Prm p) = u ∧ errV (resE ai ar p zs) = if u = true then .nilIface else errAt ar := by
    by_cases he : Elems p zs
    · exact ⟨true, tell_true ⟨he, hp⟩, by rw [resE_yes ai ar hp he]; rfl⟩
    · exact ⟨false, tell_false (fun q => he q.1), by rw [resE_out ai ar hp he]; rfl⟩
  obtain ⟨u, hu, hx⟩ := HU
  have HU := Lib.hid hu
  have HX := Lib.hid hx
  clear hu hx hp ci
  have cr2 : ∀ n, (w.drewN n).cell? ⟨2, 0, none⟩ = some (errAt ar) := fun n => ((show Quiet w (w.drewN n) from ⟨n, rfl⟩).cell _).trans cr
  go_enter Tryd.func49, Tryd.ntmps49
  go_wp2_with fail
  refine (implPrime_any p _).mono ?_
  rintro e w' ⟨rfl, rfl⟩
  rw [HT.out]
  go_wp2_with fail
  go_big_quiet (first | (go_at_call 86; refine Calls.quiet_of (v := .bool u) ?_; rw [← HU.out]; refine (areElems_any p a zs c _ (HI.out.quiet ⟨_, rfl⟩) hl).mono ?_; rintro e w' ⟨rfl, rfl⟩; exact ⟨rfl, Quiet.refl _⟩) | (go_at_call 85; refine Calls.quiet_of (v := if u = true then .nilIface else errAt ar) ?_; refine (unless_any u _ _).mono ?_; rintro e w' ⟨rfl, rfl⟩; exact ⟨rfl, Quiet.refl _⟩))
  go_wp2
  all_goals (
    go_ret
    exact ⟨by rw [HX.out]; first | rfl | (simp only [*]; rfl) | simp_all, _, rfl⟩)

/-- All lists are curves. -/
def AllOk (p : Int) (zss : List (List Int)) : Prop := ∀ i, i < zss.length → CurveOk p (nthL zss i)
noncomputable def curE (ai : Addr) (p : Int) (zss : List (List Int)) : Option Addr := if tell (AllOk p zss) = true then none else some ai
theorem curE_yes (ai : Addr) {p : Int} {zss : List (List Int)} (h : AllOk p zss) : curE ai p zss = none := by unfold curE; rw [tell_true h]; rfl
theorem curE_no (ai : Addr) {p : Int} {zss : List (List Int)} (h : ¬ AllOk p zss) : curE ai p zss = some ai := by unfold curE; rw [tell_false h]; rfl

set_option maxRecDepth 100000 in
set_option maxHeartbeats 400000 in
theorem checkCurves_any (p : Int) (a : Option Addr) (zss : List (List Int)) (c : Nat) (ai : Addr) (w : World) (h : Rows2 w a zss) (hl : zss.length ≤ 1000) (hll : ∀ r, r < zss.length → (nthL zss r).length ≤ 9223372036854775807) (hi : Sent w 0 ai) :
    Calls Tryd.prog 48 #[.int .i64 p, .slice a zss.length c] w fun e w' => e = .returned (errV (curE ai p zss)) ∧ w = w' := by
  have HL := Lib.hid hll
  have ci := hi.cell
  clear hll hi
  go_enter Tryd.func48, Tryd.ntmps48
  go_wp2
  go_loop [4, 6, 9] (fun _ _ i => ∃ k : Nat, k ≤ zss.length ∧ i = .int .i64 k ∧ ∀ j, j < k → CurveOk p (nthL zss j))
    (fun _ _ i => zss.length - (intOf i).toNat)
  case atStart => exact ⟨0, Nat.zero_le _, rfl, fun j hj => absurd hj (Nat.not_lt_zero _)⟩
  case round =>
    obtain ⟨k, hk, rfl, hno⟩ := hrel
    have HN := Lib.hid hno
    clear hno
    by_cases hlt : k < zss.length
    · rcases h with h | ⟨b, o, rfl, hc⟩
      · rw [h] at hlt; exact absurd hlt (Nat.not_lt_zero _)
      obtain ⟨ad, cd, hcell, hints⟩ := hc k hlt
      have HI := Lib.hid hints
      have hlr := HL.out k hlt
      have hi0 : (k : Int) < (zss.length : Int) := by omega
      clear hc hints
      by_cases he : CurveOk p (nthL zss k)
      · have HT := Lib.hid (tell_true he)
        have HE := Lib.hid he
        clear he
        generalize hrow : nthL zss k = row at *
        have HW := Lib.hid hrow
        clear hrow
        go_wp2_with fail
        refine (implVc_any p ad row cd _ HI.out hlr).mono ?_
        rintro e w' ⟨rfl, rfl⟩
        rw [HT.out]
        go_wp2
        go_round
        case rel => exact ⟨k + 1, by omega, by go_num, fun j hj => by
          by_cases e : j = k
          · subst e; rw [HW.out]; exact HE.out
          · exact HN.out j (by omega)⟩
        case measure => simp [intOf]; omega
      · have HT := Lib.hid (tell_false he)
        have HE := Lib.hid (curE_no ai (show ¬ AllOk p zss from fun q => he (q k hlt)))
        clear he
        generalize hrow : nthL zss k = row at *
        have HW := Lib.hid hrow
        clear hrow
        go_wp2_with fail
        refine (implVc_any p ad row cd _ HI.out hlr).mono ?_
        rintro e w' ⟨rfl, rfl⟩
        rw [HT.out]
        go_wp2
        go_ret
        exact ⟨by rw [HE.out]; rfl, rfl⟩
    · have HE := Lib.hid (curE_yes ai (show AllOk p zss from fun i hi => HN.out i (by omega)))
      go_wp2
      go_ret
      exact ⟨by rw [HE.out]; rfl, rfl⟩
end Go.Proofs.YtgndekojodpmkaaDoor
