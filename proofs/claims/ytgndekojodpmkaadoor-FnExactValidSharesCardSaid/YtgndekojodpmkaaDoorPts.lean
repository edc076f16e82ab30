/- checkPoints of the program, l05Points of the model. -/
import Derived.Test.YtgndekojodpmkaaDoorChk
import Derived.Test.YtgndekojodpmkaaDoorGk
namespace Go.Proofs.YtgndekojodpmkaaDoor
open Go.RowKit Go.Deep
set_option linter.unusedVariables false

def PtsOk (p : Int) (zs : List Int) : Prop := zs.length ≤ 10 ∧ Rises 1 (p - 1) zs
def lastOf (zs : List Int) : Nat → Int
  | 0 => 0
  | k + 1 => nth zs k
noncomputable def ptE (ai ar : Addr) (p : Int) (zs : List Int) : Option Addr := if tell (Prm p) = true then (if tell (PtsOk p zs) = true then none else some ar) else some ai
theorem ptE_no (ai ar : Addr) {p : Int} (zs : List Int) (h : ¬ Prm p) : ptE ai ar p zs = some ai := by unfold ptE; rw [tell_false h]; rfl
theorem ptE_yes (ai ar : Addr) {p : Int} {zs : List Int} (h : Prm p) (k : PtsOk p zs) : ptE ai ar p zs = none := by unfold ptE; rw [tell_true h, tell_true k]; rfl
theorem ptE_out (ai ar : Addr) {p : Int} {zs : List Int} (h : Prm p) (k : ¬ PtsOk p zs) : ptE ai ar p zs = some ar := by unfold ptE; rw [tell_true h, tell_false k]; rfl
theorem PtsOk.elems {p : Int} {zs : List Int} (h : PtsOk p zs) : Elems p zs := fun i hi => ⟨by have := (h.2 i hi).1; omega, by have := (h.2 i hi).2.1; omega⟩
theorem last_pos {zs : List Int} {k : Nat} (h : ∀ j, j < k → lastOf zs j < nth zs j) : 0 ≤ lastOf zs k := by
  induction k with
  | zero => exact Int.le_refl _
  | succ k ih =>
    have h1 := ih (fun j hj => h j (by omega))
    have h2 := h k (by omega)
    show 0 ≤ nth zs k
    omega
theorem rises_of_last {p : Int} {zs : List Int} (he : Elems p zs) (h : ∀ j, j < zs.length → lastOf zs j < nth zs j) : Rises 1 (p - 1) zs := by
  intro i hi
  have h1 := h i hi
  have h2 := last_pos (zs := zs) (k := i) (fun j hj => h j (by omega))
  have h3 := he i hi
  refine ⟨by omega, by have := h3.2; omega, fun h0 => ?_⟩
  obtain ⟨j, rfl⟩ : ∃ j, i = j + 1 := ⟨i - 1, by omega⟩
  exact h1
theorem last_of_rises {p : Int} {zs : List Int} (h : Rises 1 (p - 1) zs) {i : Nat} (hi : i < zs.length) : lastOf zs i < nth zs i := by
  obtain ⟨h1, h2, h3⟩ := h i hi
  cases i with
  | zero => show (0 : Int) < nth zs 0; omega
  | succ i => exact h3 (by omega)

set_option maxRecDepth 100000 in
set_option maxHeartbeats 1000000 in
theorem checkPoints_any (p : Int) (a : Option Addr) (zs : List Int) (c : Nat) (ai ar : Addr) (w : World) (h : Ints w a zs) (hl : zs.length ≤ 1048576) (hi : Sent w 0 ai) (hr : Sent w 2 ar) :
    Calls Tryd.prog 66 #[.int .i64 p, .slice a zs.length c] w fun e w' => e = .returned (errV (ptE ai ar p zs)) ∧ Quiet w w' := by
  have HR := Lib.hid (checkResidues_any p a zs c ai ar w h (by omega) hi hr)
  have cr := hr.cell
  by_cases hp : Prm p
  case neg =>
    rw [resE_no ai ar zs hp] at HR
    rw [ptE_no ai ar zs hp]
    simp only [errV] at HR ⊢
    clear hp h hi hr cr
    go_enter Tryd.func66, Tryd.ntmps66
    go_wp2_with fail
    refine HR.out.mono ?_
    rintro e w1 ⟨rfl, hq⟩
    go_wp2
    go_ret
    exact ⟨rfl, hq⟩
  by_cases he : Elems p zs
  case neg =>
    rw [resE_out ai ar hp he] at HR
    rw [ptE_out ai ar hp (fun q => he q.elems)]
    simp only [errV] at HR ⊢
    clear hp h hi hr cr he
    go_enter Tryd.func66, Tryd.ntmps66
    go_wp2_with fail
    refine HR.out.mono ?_
    rintro e w1 ⟨rfl, hq⟩
    go_wp2
    go_ret
    exact ⟨rfl, hq⟩
  rw [resE_yes ai ar hp he] at HR
  simp only [errV] at HR
  have HP := Lib.hid hp
  have HE := Lib.hid he
  have HI := Lib.hid h
  clear hp he h hi hr
  go_enter Tryd.func66, Tryd.ntmps66
  go_wp2_with fail
  refine HR.out.mono ?_
  rintro e w1 ⟨rfl, hq⟩
  have HQ := Lib.hid hq
  have cr1 := (hq.cell _).trans cr
  have h1 := HI.out.quiet hq
  clear HR cr HI hq
  go_wp2
  go_loop [4, 6, 8, 17] (fun _ q _ i => ∃ k : Nat, k ≤ zs.length ∧ i = .int .i64 k ∧ q = .int .i64 (lastOf zs k) ∧ ∀ j, j < k → lastOf zs j < nth zs j)
    (fun _ _ _ i => zs.length - (intOf i).toNat)
  case atStart => exact ⟨0, Nat.zero_le _, rfl, rfl, fun j hj => absurd hj (Nat.not_lt_zero _)⟩
  case round =>
    obtain ⟨k, hk, rfl, rfl, hno⟩ := hrel
    have HN := Lib.hid hno
    clear hno
    by_cases hlt : k < zs.length
    · rcases h1 with h | ⟨b, o, rfl, hc⟩
      · rw [h] at hlt; exact absurd hlt (Nat.not_lt_zero _)
      have hcell := hc k hlt
      have hi0 : (k : Int) < (zs.length : Int) := by omega
      have HS := Lib.hid (show lastOf zs (k + 1) = nth zs k from rfl)
      clear hc
      by_cases hz : lastOf zs k < nth zs k
      · have HZ := Lib.hid hz
        have t : ¬ nth zs k ≤ lastOf zs k := by omega
        clear hz
        generalize hlv : lastOf zs k = lv at *
        generalize hzv : nth zs k = zv at *
        have HLV := Lib.hid hlv
        have HZV := Lib.hid hzv
        clear hlv hzv
        go_wp2
        go_round
        case rel => exact ⟨k + 1, by omega, by go_num, by rw [HS.out], fun j hj => by
          by_cases e : j = k
          · subst e; rw [HLV.out, HZV.out]; exact HZ.out
          · exact HN.out j (by omega)⟩
        case measure => simp [intOf]; omega
      · have HE2 := Lib.hid (ptE_out ai ar HP.out (zs := zs) (fun q => hz (last_of_rises q.2 hlt)))
        have t : nth zs k ≤ lastOf zs k := by omega
        clear hz
        generalize lastOf zs k = lv at *
        generalize nth zs k = zv at *
        go_wp2
        go_ret
        exact ⟨by rw [HE2.out]; rfl, HQ.out⟩
    · have HRI := Lib.hid (rises_of_last HE.out (fun j hj => HN.out j (by omega)))
      by_cases h10 : zs.length ≤ 10
      · have HE2 := Lib.hid (ptE_yes ai ar HP.out (zs := zs) ⟨h10, HRI.out⟩)
        have t10 : (zs.length : Int) ≤ 10 := by omega
        clear h10
        go_wp2_with fail
        refine (unless_any true _ _).mono ?_
        rintro e w2 ⟨rfl, rfl⟩
        go_wp2
        go_ret
        exact ⟨by rw [HE2.out]; rfl, HQ.out⟩
      · have HE2 := Lib.hid (ptE_out ai ar HP.out (zs := zs) (fun q => h10 q.1))
        have t10 : ¬ (zs.length : Int) ≤ 10 := by omega
        clear h10
        go_wp2_with fail
        refine (unless_any false _ _).mono ?_
        rintro e w2 ⟨rfl, rfl⟩
        go_wp2
        go_ret
        exact ⟨by rw [HE2.out]; rfl, HQ.out⟩

set_option maxRecDepth 100000 in
theorem l05Points_any (p : Int) (a : Option Addr) (zs : List Int) (c : Nat) (w : World) (h : Ints w a zs) (hl : zs.length ≤ 1048576) (hp : 2 ≤ p) (hp1 : p ≤ 31) :
    Calls Tryd.prog 54 #[.int .i64 p, .slice a zs.length c] w fun e w' => e = .returned (.bool (tell (PtsOk p zs))) ∧ Quiet w w' := by
  have HI := Lib.hid h
  clear h
  by_cases h10 : zs.length ≤ 10
  · have t10 : (zs.length : Int) ≤ 10 := by omega
    have HC := Lib.hid (show tell (PtsOk p zs) = tell (Rises 1 (p - 1) zs) from tell_congr ⟨fun q => q.2, fun q => ⟨h10, q⟩⟩)
    clear h10
    go_enter Tryd.func54, Tryd.ntmps54
    go_wp2_with fail
    refine (l00Rises_any a zs c 1 (p - 1) w HI.out (by omega)).mono ?_
    rintro e w1 ⟨rfl, hq⟩
    go_wp2
    go_ret
    exact ⟨ret_bool HC.out.symm, hq⟩
  · have t10 : ¬ (zs.length : Int) ≤ 10 := by omega
    have HC := Lib.hid (tell_false (p := PtsOk p zs) (fun q => h10 q.1))
    clear h10
    go_enter Tryd.func54, Tryd.ntmps54
    go_wp2
    go_ret
    exact ⟨ret_bool HC.out.symm, Quiet.refl _⟩
end Go.Proofs.YtgndekojodpmkaaDoor
