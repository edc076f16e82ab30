/- SharesOf of the model, whole. -/
import Derived.Test.YtekhjoenejgmaaaShm
namespace Go.Proofs.Ytekhjoenejgmaaa
open Go.RowKit Go.Deep
set_option linter.unusedVariables false

/-- What a scheme, a secret and blinds give: b for a bad scheme, r for values out of range, else o. -/
noncomputable def shSel {α : Type} (h f l : Int) (yo : List Int) (z : List (List Int)) (x : Int) (bl : List Int) (b r o : α) : α := if tell (SchOk h yo f l z) = true then (if tell (Elem f x ∧ RowOk f (l - 1) bl) = true then o else r) else b
noncomputable def shZs (h f l : Int) (yo : List Int) (z : List (List Int)) (x : Int) (bl : List Int) : List Int := shSel h f l yo z x bl [] [] (shTo f l z x bl z.length)
noncomputable def shCode (h f l : Int) (yo : List Int) (z : List (List Int)) (x : Int) (bl : List Int) : Int := shSel h f l yo z x bl 1 2 0
theorem sh_bad {α : Type} {h f l : Int} {yo : List Int} {z : List (List Int)} {x : Int} {bl : List Int} (k : tell (SchOk h yo f l z) = false) (b r o : α) : shSel h f l yo z x bl b r o = b := by rw [shSel, k]; rfl
theorem sh_rng {α : Type} {h f l : Int} {yo : List Int} {z : List (List Int)} {x : Int} {bl : List Int} (k : tell (SchOk h yo f l z) = true) (q : ¬ (Elem f x ∧ RowOk f (l - 1) bl)) (b r o : α) : shSel h f l yo z x bl b r o = r := by rw [shSel, k, tell_false q]; rfl
theorem sh_ok {α : Type} {h f l : Int} {yo : List Int} {z : List (List Int)} {x : Int} {bl : List Int} (k : tell (SchOk h yo f l z) = true) (q : Elem f x ∧ RowOk f (l - 1) bl) (b r o : α) : shSel h f l yo z x bl b r o = o := by rw [shSel, k, tell_true q]; rfl
theorem shZs_len (h f l : Int) (yo : List Int) (z : List (List Int)) (x : Int) (bl : List Int) : (shZs h f l yo z x bl).length ≤ 1048576 := by
  unfold shZs shSel
  split
  · next q =>
    split
    · rw [shTo_len]; have := (of_tell q).2.1.2.2.1; omega
    · simp
  · simp

set_option maxRecDepth 100000 in
set_option maxHeartbeats 1000000 in
theorem specSh_any (h f l : Int) (ao : Option Addr) (yo : List Int) (co : Nat) (a : Option Addr) (z : List (List Int)) (c : Nat) (x : Int) (ab : Option Addr) (bl : List Int) (cb : Nat) (w : World) (hr : InS w ao yo a z) (hl : LenS yo z) (hb : Ints w ab bl) (hbl : bl.length ≤ 9223372036854775807) :
    Calls Try.prog 16 #[.agg #[.int .i64 h, .slice ao yo.length co, .int .i64 f, .int .i64 l, .slice a z.length c], .int .i64 x, .slice ab bl.length cb] w (GivesIntsCode w (shZs h f l yo z x bl) (shCode h f l yo z x bl)) := by
  have hl1 : yo.length ≤ 9223372036854775807 := hl.o
  have HL := Lib.hid hl
  have hb1 := (Below.refl w.heap.size w).alloc (Nat.le_refl _) (.cells #[.int .i64 h, .slice ao yo.length co, .int .i64 f, .int .i64 l, .slice a z.length c] 33)
  have HX := Lib.hid (show Boxes (w.alloc (.cells #[.int .i64 h, .slice ao yo.length co, .int .i64 f, .int .i64 l, .slice a z.length c] 33)) w.heap.size 33 #[.int .i64 h, .slice ao yo.length co, .int .i64 f, .int .i64 l, .slice a z.length c] from World.alloc_heap_new w _)
  have HB1 := Lib.hid hb1
  have HR := Lib.hid (hr.step hb1)
  have HBL := Lib.hid (hb.below hb1 (Nat.le_refl _))
  clear hr hl hb1 hb
  cases hf : tell (SchOk h yo f l z) with
  | false =>
    have HV := Lib.hid (fun (α : Type) (b r o : α) => sh_bad (x := x) (bl := bl) hf b r o)
    have HF := Lib.hid hf
    clear hf
    go_enter Try.func16, Try.ntmps16
    go_wp2_with fail
    refine (l04Ok_any w.heap.size h f l ao yo co a z c _ HX.out HR.out HL.out).mono ?_
    generalize w.alloc (.cells #[.int .i64 h, .slice ao yo.length co, .int .i64 f, .int .i64 l, .slice a z.length c] 33) = w1 at *
    rintro e w' ⟨rfl, hq⟩
    rw [HF.out]
    have hb2 := chain HB1.out (quiet_below hq)
    have hsz := hb2.size
    clear hq
    go_wp2_with fail
    go_ret2
    refine ⟨⟨_, by rw [shCode, HV.out]; rfl, ?_⟩, hb2.alloc hsz _⟩
    rw [shZs, HV.out]
    exact World.ownsRow_made w' #[] 0 hsz (by unfold maxLen; omega) rfl
  | true =>
    have hok := of_tell hf
    have hf0 : 2 ≤ f := hok.2.1.1.1
    have hf1 : f ≤ 31 := hok.2.1.1.2.1
    have hl0 : 1 ≤ l := hok.2.2.1
    have hl12 : l ≤ 12 := hok.2.1.2.1.2
    have HF := Lib.hid hf
    have HO := Lib.hid hok
    clear hf hok
    go_enter Try.func16, Try.ntmps16
    go_wp2_with fail
    refine (l04Ok_any w.heap.size h f l ao yo co a z c _ HX.out HR.out HL.out).mono ?_
    generalize w.alloc (.cells #[.int .i64 h, .slice ao yo.length co, .int .i64 f, .int .i64 l, .slice a z.length c] 33) = w1 at *
    rintro e w3 ⟨rfl, hq⟩
    rw [HF.out]
    have hbq := quiet_below hq
    have HB3 := Lib.hid (chain HB1.out hbq)
    have HR3 := Lib.hid (HR.out.step hbq)
    have HBL3 := Lib.hid (HBL.out.below hbq (Nat.le_refl _))
    have HX3 := Lib.hid (HX.out.step hbq)
    have c2 := HX3.out.s2
    have c3 := HX3.out.s3
    have hlt := HX3.out.lt
    clear hq hbq HX HR HB1 HBL
    have hsz := HB3.out.size
    go_wp2_with fail
    by_cases hx : Elem f x
    case neg =>
      have HV := Lib.hid (fun (α : Type) (b r o : α) => sh_rng (x := x) (bl := bl) HF.out (fun k => hx k.1) b r o)
      refine (l00In_val x 0 (f - 1) false _ (by unfold Elem at hx; simp; omega)).mono ?_
      clear hx
      rintro e w' ⟨rfl, rfl⟩
      go_wp2_with fail
      go_ret2
      refine ⟨⟨_, by rw [shCode, HV.out]; rfl, ?_⟩, HB3.out.alloc hsz _⟩
      rw [shZs, HV.out]
      exact World.ownsRow_made _ #[] 0 hsz (by unfold maxLen; omega) rfl
    refine (l00In_val x 0 (f - 1) true _ (by unfold Elem at hx; simp; omega)).mono ?_
    have HE := Lib.hid hx
    clear hx
    rintro e w' ⟨rfl, rfl⟩
    go_wp2_with fail
    refine (l03Row_any f (l - 1) ab bl cb _ HBL3.out hbl hf0 hf1).mono ?_
    rintro e w' ⟨rfl, rfl⟩
    by_cases hw : RowOk f (l - 1) bl
    case neg =>
      have HV := Lib.hid (fun (α : Type) (b r o : α) => sh_rng (x := x) (bl := bl) HF.out (fun k => hw k.2) b r o)
      have HT := Lib.hid (tell_false hw)
      clear hw
      rw [HT.out]
      go_wp2_with fail
      go_ret2
      refine ⟨⟨_, by rw [shCode, HV.out]; rfl, ?_⟩, HB3.out.alloc hsz _⟩
      rw [shZs, HV.out]
      exact World.ownsRow_made _ #[] 0 hsz (by unfold maxLen; omega) rfl
    have HV := Lib.hid (fun (α : Type) (b r o : α) => sh_ok (x := x) (bl := bl) HF.out ⟨HE.out, hw⟩ b r o)
    have HT := Lib.hid (tell_true hw)
    have HW := Lib.hid hw
    clear hw
    rw [HT.out]
    go_wp2_with fail
    refine (l04Shares_any w.heap.size h f l ao yo co a z c x ab bl cb _ HX3.out HR3.out HO.out HBL3.out HE.out HW.out).mono ?_
    rintro e w' ⟨⟨v, rfl, hov⟩, hbv⟩
    have HOV := Lib.hid hov
    have HBV := Lib.hid hbv
    clear hov hbv
    go_wp2_with fail
    go_ret2
    refine ⟨⟨_, by rw [shCode, HV.out]; rfl, ?_⟩, chain HB3.out HBV.out⟩
    rw [shZs, HV.out]
    exact ownsRow_mono HOV.out hsz
end Go.Proofs.Ytekhjoenejgmaaa
