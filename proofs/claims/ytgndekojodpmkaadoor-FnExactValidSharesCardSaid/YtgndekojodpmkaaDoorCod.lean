/- codeOf of the program: the code of the first error. -/
import Derived.Test.YtgndekojodpmkaaDoorErr
namespace Go.Proofs.YtgndekojodpmkaaDoor
open Go.RowKit Go.Deep
set_option linter.unusedVariables false

def errV : Option Addr → Value
  | none => .nilIface
  | some a => errAt a
/-- The code of the first error of a list. -/
inductive CodeIs (w : World) : List (Option Addr) → Int → Prop
  | nil : CodeIs w [] 0
  | none {vs : List (Option Addr)} {r : Int} : CodeIs w vs r → CodeIs w (none :: vs) r
  | invalid {a : Addr} {vs : List (Option Addr)} : Handle w → Sent w 0 a → CodeIs w (some a :: vs) 1
  | state {a ai : Addr} {vs : List (Option Addr)} : Handle w → Sent w 0 ai → Sent w 1 a → a ≠ ai → CodeIs w (some a :: vs) 4
  | range {a ai az : Addr} {vs : List (Option Addr)} : Handle w → Sent w 0 ai → Sent w 1 az → Blk w a → a ≠ ai → a ≠ az → CodeIs w (some a :: vs) 2
theorem CodeIs.step {w w' : World} {vs : List (Option Addr)} {r : Int} (h : CodeIs w vs r) (hb : Below w.heap.size w w') : CodeIs w' vs r := by
  induction h with
  | nil => exact .nil
  | none _ ih => exact .none ih
  | invalid h1 h2 => exact .invalid (h1.step hb) (h2.step hb)
  | state h1 h2 h3 h4 => exact .state (h1.step hb) (h2.step hb) (h3.step hb) h4
  | range h1 h2 h3 h4 h5 h6 => exact .range (h1.step hb) (h2.step hb) (h3.step hb) (h4.step hb) h5 h6

set_option maxRecDepth 100000 in
set_option maxHeartbeats 1000000 in
theorem codeOf_any (g : Nat) (vs : List (Option Addr)) (n c : Nat) (r : Int) (w : World) (hn : vs.length = n) (hn10 : n ≤ 10) (hv : ∀ i, i < n → w.cell? ⟨g, i, none⟩ = some (errV (vs.getD i none))) (hr : CodeIs w vs r) :
    Calls Tryd.prog 47 #[.slice (some ⟨g, 0, none⟩) n c] w fun e w' => e = .returned (.int .i64 r) ∧ Below w.heap.size w w' := by
  have HV := Lib.hid hv
  have HN := Lib.hid hn
  have HR0 := Lib.hid hr
  clear hv hn hr
  go_enter Tryd.func47, Tryd.ntmps47
  go_wp2_with fail
  go_loopw [8] (fun i wr => ∃ k : Nat, k ≤ n ∧ i = .int .i64 k ∧ Below w.heap.size w wr ∧ CodeIs w (vs.drop k) r)
    (fun i _ => n - (intOf i).toNat)
  case atStart => exact ⟨0, Nat.zero_le _, rfl, Below.refl _ _, by simpa using HR0.out⟩
  case round =>
    obtain ⟨k, hk, rfl, hb, hr⟩ := hrel
    have HB := Lib.hid hb
    have hsz := hb.size
    by_cases hlt : k < n
    · have hcell := cell_step (w := w) (w' := wr) hb (HV.out k hlt)
      have hlk : k < vs.length := by rw [HN.out]; exact hlt
      have hdr : vs.drop k = vs.getD k none :: vs.drop (k + 1) := by rw [List.drop_eq_getElem_cons hlk]; simp [List.getD, hlk]
      have hi0 : (k : Int) < (n : Int) := by omega
      rw [hdr] at hr
      have HB2 := Lib.hid (hb.trans ((Below.refl wr.heap.size wr).alloc (Nat.le_refl _) (.cells #[.int .i64 0, .nilIface] 116) |>.mono hsz))
      clear hb hdr hlk
      generalize vs.getD k none = x at hr hcell
      obtain ⟨xs, hxs⟩ : ∃ xs, vs.drop (k + 1) = xs := ⟨_, rfl⟩
      have HXS := Lib.hid hxs
      rw [hxs] at hr
      clear hxs
      cases hr with
      | none h =>
        have HC := Lib.hid h
        clear h
        simp only [errV] at hcell
        go_wp2
        go_roundw
        case rel => exact ⟨k + 1, by omega, by go_num, HB2.out, by rw [HXS.out]; exact HC.out⟩
        case measure => simp [intOf]; omega
      | @invalid a _ h1 h2 =>
        have HH := Lib.hid h1
        have HS := Lib.hid h2
        clear h1 h2
        simp only [errV] at hcell
        go_wp2_with fail
        refine (as_miss a _ _ (HH.out.step HB2.out)).mono ?_
        generalize wr.alloc (.cells #[.int .i64 0, .nilIface] 116) = w2 at *
        rintro e w3 ⟨rfl, hb3⟩
        have HB3 := Lib.hid (HB2.out.trans (hb3.mono HB2.out.size))
        have hs := (HS.out.step HB3.out).cell
        clear hb3
        go_wp2_with fail
        refine (is_same a _).mono ?_
        rintro e w4 ⟨rfl, rfl⟩
        go_wp2_with fail
        go_ret
        exact ⟨rfl, HB3.out⟩
      | @state a ai _ h1 h2 h3 h4 =>
        have HH := Lib.hid h1
        have HS := Lib.hid h2
        have HS1 := Lib.hid h3
        have HNE := Lib.hid h4
        clear h1 h2 h3 h4
        simp only [errV] at hcell
        go_wp2_with fail
        refine (as_miss a _ _ (HH.out.step HB2.out)).mono ?_
        generalize wr.alloc (.cells #[.int .i64 0, .nilIface] 116) = w2 at *
        rintro e w3 ⟨rfl, hb3⟩
        have HB3 := Lib.hid (HB2.out.trans (hb3.mono HB2.out.size))
        have hs := (HS.out.step HB3.out).cell
        have hs1 := (HS1.out.step HB3.out).cell
        clear hb3
        go_wp2_with fail
        refine (is_other a ai _ HNE.out (HS1.out.step HB3.out).blk (HS.out.step HB3.out).blk).mono ?_
        rintro e w4 ⟨rfl, rfl⟩
        go_wp2_with fail
        refine (is_same a _).mono ?_
        rintro e w4 ⟨rfl, rfl⟩
        go_wp2_with fail
        go_ret
        exact ⟨rfl, HB3.out⟩
      | @range a ai az _ h1 h2 h3 h4 h5 h6 =>
        have HH := Lib.hid h1
        have HS := Lib.hid h2
        have HS1 := Lib.hid h3
        have HBL := Lib.hid h4
        have HNE := Lib.hid (And.intro h5 h6)
        clear h1 h2 h3 h4 h5 h6
        simp only [errV] at hcell
        go_wp2_with fail
        refine (as_miss a _ _ (HH.out.step HB2.out)).mono ?_
        generalize wr.alloc (.cells #[.int .i64 0, .nilIface] 116) = w2 at *
        rintro e w3 ⟨rfl, hb3⟩
        have HB3 := Lib.hid (HB2.out.trans (hb3.mono HB2.out.size))
        have hs := (HS.out.step HB3.out).cell
        have hs1 := (HS1.out.step HB3.out).cell
        clear hb3
        go_wp2_with fail
        refine (is_other a ai _ HNE.out.1 (HBL.out.step HB3.out) (HS.out.step HB3.out).blk).mono ?_
        rintro e w4 ⟨rfl, rfl⟩
        go_wp2_with fail
        refine (is_other a az _ HNE.out.2 (HBL.out.step HB3.out) (HS1.out.step HB3.out).blk).mono ?_
        rintro e w4 ⟨rfl, rfl⟩
        go_wp2_with fail
        go_ret
        exact ⟨rfl, HB3.out⟩
    · have hk2 : k = n := by omega
      have HD := Lib.hid (show vs.drop k = [] from List.drop_eq_nil_of_le (by rw [HN.out]; omega))
      rw [HD.out] at hr
      cases hr
      go_wp2_with fail
      go_ret
      exact ⟨rfl, HB.out⟩
end Go.Proofs.YtgndekojodpmkaaDoor
