/- SameRanks, both. -/
import Derived.Test.YtdfggbojccfblaaRk
import Derived.Test.YtdfggbojccfblaaSame
namespace Go.Proofs.Ytdfggbojccfblaa
open Go.RowKit Go.Deep
set_option linter.unusedVariables false

def RkEq (h l : Int) (z : List Int) (h1 l1 : Int) (y : List Int) : Prop := h = h1 ∧ l = l1 ∧ z = y
set_option maxRecDepth 100000 in
set_option maxHeartbeats 1000000 in
theorem specSr_any (h l : Int) (a : Option Addr) (z : List Int) (c : Nat) (h1 l1 : Int) (b : Option Addr) (y : List Int) (d : Nat) (w : World) (hr : Ints w a z) (hq : Ints w b y) (hl : LenI z) (hl1 : LenI y) :
    Calls Try.prog 15 #[.agg #[.int .i64 h, .int .i64 l, .slice a z.length c], .agg #[.int .i64 h1, .int .i64 l1, .slice b y.length d]] w fun e w' => e = .returned (.bool (tell (RkEq h l z h1 l1 y))) ∧ Below w.heap.size w w' := by
  have hb := ((Below.refl w.heap.size w).alloc (Nat.le_refl _) (.cells #[.int .i64 h, .int .i64 l, .slice a z.length c] 27)).alloc (by simp) (.cells #[.int .i64 h1, .int .i64 l1, .slice b y.length d] 27)
  have HR := Lib.hid (hr.below hb (Nat.le_refl _))
  have HQ := Lib.hid (hq.below hb (Nat.le_refl _))
  have HB := Lib.hid hb
  have hlz := hl.n
  have hly := hl1.n
  clear hr hq hb hl hl1
  by_cases e1 : h = h1
  case neg =>
    have t1 : (h == h1) = false := by simp [e1]
    have HN := Lib.hid (tell_false (p := RkEq h l z h1 l1 y) (fun q => e1 q.1))
    clear e1
    go_enter Try.func15, Try.ntmps15
    go_wp2_with fail
    go_ret
    exact ⟨ret_bool HN.out.symm, HB.out⟩
  have t1 : (h == h1) = true := by simp [e1]
  have E1 := Lib.hid e1
  clear e1
  by_cases e2 : l = l1
  case neg =>
    have t2 : (l == l1) = false := by simp [e2]
    have HN := Lib.hid (tell_false (p := RkEq h l z h1 l1 y) (fun q => e2 q.2.1))
    clear e2
    go_enter Try.func15, Try.ntmps15
    go_wp2_with fail
    go_ret
    exact ⟨ret_bool HN.out.symm, HB.out⟩
  have t2 : (l == l1) = true := by simp [e2]
  have E2 := Lib.hid e2
  clear e2
  have HT := Lib.hid (show tell (RkEq h l z h1 l1 y) = tell (z = y) from tell_congr ⟨fun q => q.2.2, fun q => ⟨E1.out, E2.out, q⟩⟩)
  go_enter Try.func15, Try.ntmps15
  go_wp2_with fail
  refine (l00Same_any a b z y c d _ HR.out HQ.out hlz hly).mono ?_
  rintro e w1 ⟨rfl, hq⟩
  have HQF := Lib.hid (HB.out.trans ((quiet_below hq).mono (by simp; omega)))
  clear hq
  go_wp2_with fail
  go_ret
  exact ⟨ret_bool HT.out.symm, HQF.out⟩
set_option maxRecDepth 100000 in
set_option maxHeartbeats 1000000 in
theorem implSr_any (h l : Int) (a : Option Addr) (z : List Int) (c : Nat) (h1 l1 : Int) (b : Option Addr) (y : List Int) (d : Nat) (w : World) (hr : Ints w a z) (hq : Ints w b y) (hl : LenI z) (hl1 : LenI y) :
    Calls Try.prog 16 #[.agg #[.int .i64 h, .int .i64 l, .slice a z.length c], .agg #[.int .i64 h1, .int .i64 l1, .slice b y.length d]] w fun e w' => e = .returned (.bool (tell (RkEq h l z h1 l1 y))) ∧ Below w.heap.size w w' := by
  have hb := ((Below.refl w.heap.size w).alloc (Nat.le_refl _) (.cells #[.int .i64 h, .int .i64 l, .slice a z.length c] 27)).alloc (by simp) (.cells #[.int .i64 h1, .int .i64 l1, .slice b y.length d] 27)
  have HR := Lib.hid (hr.below hb (Nat.le_refl _))
  have HQ := Lib.hid (hq.below hb (Nat.le_refl _))
  have HB := Lib.hid hb
  have hlz := hl.n
  have hly := hl1.n
  clear hr hq hb hl hl1
  by_cases e1 : h = h1
  case neg =>
    have t1 : (h == h1) = false := by simp [e1]
    have HN := Lib.hid (tell_false (p := RkEq h l z h1 l1 y) (fun q => e1 q.1))
    clear e1
    go_enter Try.func16, Try.ntmps16
    go_wp2_with fail
    go_ret
    exact ⟨ret_bool HN.out.symm, HB.out⟩
  have t1 : (h == h1) = true := by simp [e1]
  have E1 := Lib.hid e1
  clear e1
  by_cases e2 : l = l1
  case neg =>
    have t2 : (l == l1) = false := by simp [e2]
    have HN := Lib.hid (tell_false (p := RkEq h l z h1 l1 y) (fun q => e2 q.2.1))
    clear e2
    go_enter Try.func16, Try.ntmps16
    go_wp2_with fail
    go_ret
    exact ⟨ret_bool HN.out.symm, HB.out⟩
  have t2 : (l == l1) = true := by simp [e2]
  have E2 := Lib.hid e2
  clear e2
  have HT := Lib.hid (show tell (RkEq h l z h1 l1 y) = tell (z = y) from tell_congr ⟨fun q => q.2.2, fun q => ⟨E1.out, E2.out, q⟩⟩)
  go_enter Try.func16, Try.ntmps16
  go_wp2_with fail
  refine (slicesEqual_any a b z y c d _ HR.out HQ.out hlz hly).mono ?_
  rintro e w1 ⟨rfl, hq⟩
  have HQF := Lib.hid (HB.out.trans ((quiet_below hq).mono (by simp; omega)))
  clear hq
  go_wp2_with fail
  go_ret
  exact ⟨ret_bool HT.out.symm, HQF.out⟩
end Go.Proofs.Ytdfggbojccfblaa
