/- The program's newTable: who has all holders of one of some groups. -/
import Derived.Test.YtnebkhelobpkpaaDoorGr
namespace Go.Proofs.YtnebkhelobpkpaaDoor
open Go.RowKit Go.Deep Go.Shelf
set_option linter.unusedVariables false
attribute [local go_sem] Oper.semAt_some

theorem Sets.below' {w w' : World} {a : Option Addr} {l : List Nat} (h : Sets w a l) (hb : Below w.heap.size w w') : Sets w' a l :=
  h.imp id fun ⟨b, o, ha, hc⟩ => ⟨b, o, ha, fun i hi => cell_step hb (hc i hi)⟩
/-- One of the groups is within x. -/
def anyIn (l : List Nat) (x : Nat) : Bool := l.any fun y => y &&& x == y

theorem tell_beq (x y : Nat) : tell (y &&& x = y) = (y &&& x == y) := by
  by_cases h : y &&& x = y
  · rw [tell_true h, beq_iff_eq.2 h]
  · rw [tell_false h, beq_eq_false_iff_ne.2 h]

set_option maxRecDepth 100000 in
theorem newTable1_any (y B x : Nat) (w : World) (hy : y < 128) (hx : x < 128) (hc : w.cell? ⟨B, 0, none⟩ = some (.int .u64 x)) :
    Calls Tryd.prog 154 #[.int .u64 y, .pointer (some ⟨B, 0, none⟩)] w fun e w' => e = .returned (.bool (y &&& x == y)) ∧ w = w' := by
  go_enter Tryd.func154, Tryd.ntmps154
  go_wp2_with fail
  refine (within_any y x w hy hx).mono ?_
  rintro e w' ⟨rfl, rfl⟩
  go_wp2_with fail
  go_ret
  exact ⟨ret_bool (tell_beq x y), rfl⟩

set_option maxRecDepth 100000 in
set_option maxHeartbeats 600000 in
theorem indexFunc_any (a : Option Addr) (l : List Nat) (c B x : Nat) (w : World) (hs : Sets w a l) (hall : ∀ i, i < l.length → nthN l i < 128) (hl : l.length ≤ 9223372036854775807) (hx : x < 128) (hc : w.cell? ⟨B, 0, none⟩ = some (.int .u64 x)) :
    Calls Tryd.prog 163 #[.slice a l.length c, .func (.func 154) #[] #[.pointer (some ⟨B, 0, none⟩)]] w fun e w' => (∃ r : Int, e = .returned (.int .i64 r) ∧ decide (0 ≤ r) = anyIn l x) ∧ w = w' := by
  have HA := Lib.hid hall
  have e1 : ∀ args w, (callFunc 154 args).run Tryd.prog w = .ok (.enter 154 args) w := enters_of Tryd.func154 (by kernel_rfl) rfl
  clear hall
  go_enter Tryd.func163, Tryd.ntmps163
  go_wp2_with fail
  go_loop [8] (fun i => ∃ k : Nat, k ≤ l.length ∧ i = .int .i64 k ∧ ∀ r, r < k → (nthN l r &&& x == nthN l r) = false)
    (fun i => l.length - (intOf i).toNat)
  case atStart => exact ⟨0, Nat.zero_le _, rfl, fun r hr => absurd hr (Nat.not_lt_zero _)⟩
  case round =>
    obtain ⟨k, hk, rfl, hno⟩ := hrel
    have HN := Lib.hid hno
    clear hno
    by_cases hlt : k < l.length
    · rcases hs with h | ⟨b, o, rfl, hcs⟩
      · rw [h] at hlt; exact absurd hlt (Nat.not_lt_zero _)
      have hck := hcs k hlt
      have hki : (k : Int) < (l.length : Int) := by omega
      have hyk := HA.out k hlt
      have HMEM := Lib.hid (show nthN l k ∈ l by rw [nthN_lt hlt]; exact List.getElem_mem hlt)
      clear hcs
      generalize hgy : nthN l k = y at *
      cases hw : (y &&& x == y) with
      | true =>
        have HW := Lib.hid hw
        clear hw
        go_wp2_with (go_at_call 154; refine (newTable1_any y B x w hyk hx hc).mono ?_; rintro e w' ⟨rfl, rfl⟩; rw [HW.out])
        go_ret
        refine ⟨⟨k, rfl, ?_⟩, rfl⟩
        rw [show anyIn l x = true from List.any_eq_true.2 ⟨y, HMEM.out, HW.out⟩]
        simp
      | false =>
        have HW := Lib.hid hw
        have HY := Lib.hid hgy
        clear hw hgy
        go_wp2_with (go_at_call 154; refine (newTable1_any y B x w hyk hx hc).mono ?_; rintro e w' ⟨rfl, rfl⟩; rw [HW.out])
        go_round
        case rel =>
          refine ⟨k + 1, by omega, by go_num, fun r hr => ?_⟩
          by_cases e : r = k
          · subst e; rw [HY.out]; exact HW.out
          · exact HN.out r (by omega)
        case measure => simp [intOf]; omega
    · go_wp2_with fail
      go_ret
      refine ⟨⟨-1, rfl, ?_⟩, rfl⟩
      have : anyIn l x = false := by
        refine List.any_eq_false.2 fun y hy => ?_
        obtain ⟨i, hi, rfl⟩ := List.mem_iff_getElem.1 hy
        have := HN.out i (by omega)
        rw [nthN_lt hi] at this
        simp [this]
      rw [this]; decide

set_option maxRecDepth 100000 in
theorem containsFunc_any (a : Option Addr) (l : List Nat) (c B x : Nat) (w : World) (hs : Sets w a l) (hall : ∀ i, i < l.length → nthN l i < 128) (hl : l.length ≤ 9223372036854775807) (hx : x < 128) (hc : w.cell? ⟨B, 0, none⟩ = some (.int .u64 x)) :
    Calls Tryd.prog 153 #[.slice a l.length c, .func (.func 154) #[] #[.pointer (some ⟨B, 0, none⟩)]] w fun e w' => e = .returned (.bool (anyIn l x)) ∧ w = w' := by
  have HI := Lib.hid (indexFunc_any a l c B x w hs hall hl hx hc)
  clear hs hall
  go_enter Tryd.func153, Tryd.ntmps153
  go_wp2_with fail
  refine HI.out.mono ?_
  rintro e w' ⟨⟨r, rfl, hr⟩, rfl⟩
  have HR := Lib.hid hr
  clear hr
  go_wp2_with fail
  go_ret
  exact ⟨by rw [← HR.out]; rfl, rfl⟩
end Go.Proofs.YtnebkhelobpkpaaDoor
