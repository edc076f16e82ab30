/- Fm0 Fm1 Fm2 LfmA Lfm1 Lfm2 Lfm3 in one text. -/
import Derived.Test.YthmjcmhaijiedaaDoorFsZ
import Derived.Test.YthmjcmhaijiedaaDoorLawA
import Derived.Test.YthmjcmhaijiedaaDoorMk2f
import Derived.Deep.RegionHeld3
import Derived.Deep.CutRange
import Derived.Test.YthmjcmhaijiedaaDoorOpen
import Derived.Test.YthmjcmhaijiedaaDoorCp
import Derived.LaidHandle
import Derived.LaidLaws
import Derived.LaidMore
import Derived.Test.YthmjcmhaijiedaaDoorLfmC
import Derived.Test.YthmjcmhaijiedaaDoorLfmD
import Derived.Test.YthmjcmhaijiedaaDoorTie
namespace Go.Proofs.YthmjcmhaijiedaaDoor
open Go.RowKit Go.Deep Go.Shelf
set_option linter.unusedVariables false

theorem of5 : ∀ x : Nat, x < 32 → ∀ n : Nat, n < 5 → (bits BinOp.and IntKind.i64 ((x : Int) / 2 ^ n) 1 == 1) = x.testBit n := by decide +kernel
theorem listTo_5 : ∀ m : Nat, m ≤ 5 → ∀ x : Nat, x < 32 → x < 2 ^ m → listTo x m = listOf x := by decide +kernel
set_option maxRecDepth 100000 in
set_option maxHeartbeats 400000 in
theorem l06Holders_any (x m : Nat) (w : World) (hm : m ≤ 5) (hx : x < 2 ^ m) : Calls Tryd.prog 53 #[.int .i64 (x : Nat), .int .i64 (m : Nat)] w (GivesInts w (listOf x)) := by
  obtain ⟨i0, hi, hz0, hz1, hz2⟩ := info_parts Tryd.infoInt64
  have hx32 : x < 32 := Nat.lt_of_lt_of_le hx (pow5 hm)
  have HLT := Lib.hid (listTo_5 m hm x hx32 hx)
  clear hx
  go_enter Tryd.func53, Tryd.ntmps53
  go_wp2_with fail
  have hown : OwnI (w.alloc (.cells #[] 2)) w.heap.size (.slice (some ⟨w.heap.size, 0, none⟩) 0 0) [] := World.ownsRow_made w #[] 0 (Nat.le_refl _) (by unfold maxLen; omega) rfl
  have hb1 := (Below.refl w.heap.size w).alloc (Nat.le_refl _) (.cells #[] 2)
  generalize (Value.slice (some ⟨w.heap.size, 0, none⟩) 0 0) = v0 at *
  go_loopw [5, 6] (fun v i wr => ∃ k : Nat, k ≤ m ∧ i = .int .i64 k ∧ OwnI wr w.heap.size v (listTo x k) ∧ Below w.heap.size w wr)
    (fun _ i _ => m - (intOf i).toNat)
  case atStart => exact ⟨0, by omega, rfl, hown, hb1⟩
  case round =>
    obtain ⟨k, hk, rfl, ho, hb⟩ := hrel
    have HO := Lib.hid ho
    have HB := Lib.hid hb
    have hszr := hb.size
    have hlk := listTo_len x k
    clear ho hb hown hb1
    by_cases hlt : k < m
    · have hi0 : (k : Int) < (m : Int) := by omega
      have hof := of5 x hx32 k (by omega)
      cases hbit : x.testBit k with
      | true =>
        have HT := Lib.hid hbit
        rw [hbit] at hof
        clear hbit
        go_wp2_with (at_builtin; refine wpList_append_own _ rfl _ _ 22 rfl w.heap.size 2 i0 (.int .i64 0) 1 8 Tryd.underlying22 hi hz0 hz1 hz2 rfl (by decide) _ _ _ rfl (World.ownsRow.alloc HO.out _) ⟨wr.heap.size, 0, none⟩ 1 1 [.int .i64 k] rfl rfl (cell_one_new _ _ _) (by simp [Value.oneCell']) (by unfold maxLen; omega) (by omega) (by simp; omega) ?_; intro v' w1 hown1 hgrow1 _)
        go_wp2
        go_roundw
        case rel =>
          refine ⟨k + 1, by omega, by go_num, ?_, ?_⟩
          · unfold OwnI; rw [listTo_hit HT.out, vals_snoc, List.length_append]; exact hown1
          · exact (HB.out.alloc hszr _).grown hgrow1 (by simp; omega) (fun q hq => (World.ownsRow.lt HO.out q hq).1)
        case measure => simp [intOf]; omega
      | false =>
        have HT := Lib.hid hbit
        rw [hbit] at hof
        clear hbit
        go_wp2_with fail
        go_roundw
        case rel =>
          refine ⟨k + 1, by omega, by go_num, ?_, HB.out⟩
          rw [listTo_miss HT.out]; exact HO.out
        case measure => simp [intOf]; omega
    · have hi0 : ¬ (k : Int) < (m : Int) := by omega
      have HKM := Lib.hid (show k = m by omega)
      go_wp2_with fail
      go_ret
      refine ⟨⟨_, rfl, ?_⟩, HB.out⟩
      have := HO.out
      rw [HKM.out, HLT.out] at this
      exact this

theorem flt_in {z : List Int} {n : Nat} (h : fltO z n = true) : fltA z n < n ∧ fltB z n < n := by
  have hn : ¬ NoFault z n := fun k => by rw [(flt_no k).2.2] at h; exact absurd h (by decide)
  obtain ⟨a, b, hf⟩ := fault_first hn
  obtain ⟨e1, e2, -⟩ := flt_at hf
  rw [e1, e2]
  exact ⟨hf.1, hf.2.1⟩
/-- What FirstMisfit answers. -/
noncomputable def fmY (l : Int) (z : List Int) (zss : List (List Int)) : List Int := togZ z l (tblAt zss zss.length) z.length
noncomputable def fmC (h l : Int) (z : List Int) (h2 : Int) (zss : List (List Int)) : Int := if bothC h l z h2 zss = 0 then (if fltO (fmY l z zss) z.length = true then 0 else 6) else bothC h l z h2 zss
noncomputable def fmA (h l : Int) (z : List Int) (h2 : Int) (zss : List (List Int)) : List Int := if fmC h l z h2 zss = 0 then listOf (fltA (fmY l z zss) z.length) else []
noncomputable def fmB (h l : Int) (z : List Int) (h2 : Int) (zss : List (List Int)) : List Int := if fmC h l z h2 zss = 0 then listOf (fltB (fmY l z zss) z.length) else []
theorem fm_bad {h l : Int} {z : List Int} {h2 : Int} {zss : List (List Int)} (k : ¬ bothC h l z h2 zss = 0) : fmC h l z h2 zss = bothC h l z h2 zss ∧ fmA h l z h2 zss = [] ∧ fmB h l z h2 zss = [] := by
  have e : fmC h l z h2 zss = bothC h l z h2 zss := by rw [fmC, if_neg k]
  exact ⟨e, by rw [fmA, e, if_neg k], by rw [fmB, e, if_neg k]⟩
theorem fm_none {h l : Int} {z : List Int} {h2 : Int} {zss : List (List Int)} (k : bothC h l z h2 zss = 0) (o : fltO (fmY l z zss) z.length = false) : fmC h l z h2 zss = 6 ∧ fmA h l z h2 zss = [] ∧ fmB h l z h2 zss = [] := by
  have e : fmC h l z h2 zss = 6 := by rw [fmC, if_pos k, if_neg (by rw [o]; decide)]
  exact ⟨e, by rw [fmA, e, if_neg (by decide)], by rw [fmB, e, if_neg (by decide)]⟩
theorem fm_yes {h l : Int} {z : List Int} {h2 : Int} {zss : List (List Int)} (k : bothC h l z h2 zss = 0) (o : fltO (fmY l z zss) z.length = true) : fmC h l z h2 zss = 0 ∧ fmA h l z h2 zss = listOf (fltA (fmY l z zss) z.length) ∧ fmB h l z h2 zss = listOf (fltB (fmY l z zss) z.length) := by
  have e : fmC h l z h2 zss = 0 := by rw [fmC, if_pos k, if_pos o]
  exact ⟨e, by rw [fmA, if_pos e], by rw [fmB, if_pos e]⟩
/-- What gives two slices of numbers of its own, apart, and a code. -/
structure GivesTwo (W : World) (xs ys : List Int) (code : Int) (e : Ending) (w' : World) : Prop where
  val : ∃ u v base, e = .returned (.tuple #[u, v, .int .i64 code]) ∧ OwnI w' W.heap.size u xs ∧ OwnI w' base v ys ∧ W.heap.size ≤ base ∧ ∀ b, u.ownBlock = some b → b < base
  below : Below W.heap.size W w'
theorem GivesTwo.nil {W w' : World} (code : Int) (hb : Below W.heap.size W w') : GivesTwo W [] [] code (.returned (.tuple #[.slice none 0 0, .slice none 0 0, .int .i64 code])) w' :=
  ⟨⟨.slice none 0 0, .slice none 0 0, W.heap.size, rfl, OwnI.nil _ _, OwnI.nil _ _, Nat.le_refl _, fun b h => by simp [Value.ownBlock] at h⟩, hb⟩

set_option maxHeartbeats 1000000 in
set_option maxRecDepth 100000 in
theorem implFm_any (h l : Int) (a : Option Addr) (z : List Int) (c : Nat) (h2 : Int) (b : Option Addr) (zss : List (List Int)) (d : Nat) (w : World) (hr : Ints w a z) (hl : LenI z) (hq : Rows2 w b zss) (hs : Small2 zss) :
    Calls Tryd.prog 17 #[.agg #[.int .i64 h, .int .i64 l, .slice a z.length c], .agg #[.int .i64 h2, .slice b zss.length d]] w (GivesTwo w (fmA h l z h2 zss) (fmB h l z h2 zss) (fmC h l z h2 zss)) := by
  have hb1 := alloc_b w (.cells #[.int .i64 h, .int .i64 l, .slice a z.length c] 32)
  have hb2 := alloc_b (w.alloc (.cells #[.int .i64 h, .int .i64 l, .slice a z.length c] 32)) (.cells #[.int .i64 h2, .slice b zss.length d] 34)
  have HX := Lib.hid ((boxes_new w #[.int .i64 h, .int .i64 l, .slice a z.length c] 32).step hb2)
  have HR := Lib.hid ((hr.step hb1).step hb2)
  have HQ := Lib.hid ((hq.step hb1).step hb2)
  have HB := Lib.hid (chain hb1 hb2)
  have HLZ := Lib.hid hl
  have HS := Lib.hid hs
  clear hr hl hq hs hb1 hb2
  go_enter Tryd.func17, Tryd.ntmps17
  go_wp2_with fail
  generalize (w.alloc (.cells #[.int .i64 h, .int .i64 l, .slice a z.length c] 32)).alloc (.cells #[.int .i64 h2, .slice b zss.length d] 34) = w1 at *
  refine (ranksFor_any h l a z c h2 b zss d w1 HR.out HLZ.out HQ.out HS.out).mono ?_
  rintro e w2 ⟨hy, hn, hb⟩
  have HX2 := Lib.hid (HX.out.step hb)
  have HB2 := Lib.hid (chain HB.out hb)
  clear hb
  by_cases hc : bothC h l z h2 zss = 0
  case neg =>
    obtain rfl := hn hc
    have HV := Lib.hid (fm_bad hc)
    clear hy hn
    obtain ⟨fc, hfc⟩ : ∃ fc, bothC h l z h2 zss = fc := ⟨_, rfl⟩
    rw [hfc] at hc HV ⊢
    clear hfc
    go_wp2_with fail
    refine bodyPost_ret (v := .tuple #[.slice none 0 0, .slice none 0 0, .int .i64 fc]) (by simp [results, Tryd.results17, go_sem]) rfl ?_
    rw [HV.out.1, HV.out.2.1, HV.out.2.2]
    exact GivesTwo.nil _ HB2.out
  obtain ⟨r, rfl, hsm⟩ := hy hc
  have HC := Lib.hid hc
  obtain ⟨k, -, -⟩ := both_zero hc
  obtain ⟨m, rfl⟩ : ∃ m : Nat, h = (m : Int) := ⟨h.toNat, by have := k.1.1.1; omega⟩
  have hm : m ≤ 5 := by have := k.1.1.2; omega
  have HN := Lib.hid k.len.symm
  have HM := Lib.hid (togZ_mild (u := l) (tblAt zss zss.length) z.length k.2.2.1 (by have := k.1.2.1; omega))
  have HN32 := Lib.hid (show z.length ≤ 32 by rw [k.len]; exact pow5 hm)
  have HSM := Lib.hid hsm
  have HYN := Lib.hid (fm_none (h2 := h2) (zss := zss) hc)
  have HYY := Lib.hid (fm_yes (h2 := h2) (zss := zss) hc)
  have HFI := Lib.hid (fun o : fltO (fmY l z zss) z.length = true => flt_in o)
  clear hy hn hc k hsm
  change Hid (SecMap w2 r z (fmY l z zss)) at HSM
  change Hid (Mild (fmY l z zss)) at HM
  generalize fmY l z zss = y at *
  have p0 := HX2.out.m0
  go_wp2_with fail
  refine (secMisfit_any r m z.length z y w2 hm HN.out HSM.out HM.out).mono ?_
  rintro e w3 ⟨rfl, hb⟩
  have HB3 := Lib.hid (chain HB2.out hb)
  clear hb p0
  cases ho : fltO y z.length with
  | false =>
    have HO := Lib.hid (HYN.out ho)
    clear ho
    go_wp2_with fail
    refine bodyPost_ret (v := .tuple #[.slice none 0 0, .slice none 0 0, .int .i64 6]) (by simp [results, Tryd.results17, go_sem]) rfl ?_
    rw [HO.out.1, HO.out.2.1, HO.out.2.2]
    exact GivesTwo.nil _ HB3.out
  | true =>
    have HO := Lib.hid (HYY.out ho)
    obtain ⟨l1, l2⟩ := HFI.out ho
    have hx1 : fltA y z.length < 128 := by have := HN32.out; omega
    have hx2 : fltB y z.length < 128 := by have := HN32.out; omega
    clear ho l1 l2
    generalize fltA y z.length = x1 at *
    generalize fltB y z.length = x2 at *
    go_wp2_with fail
    refine (list_any x1 w3 hx1).mono ?_
    rintro e w4 ⟨⟨u, rfl, hu⟩, hb4⟩
    have HU := Lib.hid hu
    have HB4 := Lib.hid hb4
    clear hu hb4
    go_wp2_with fail
    refine (list_any x2 w4 hx2).mono ?_
    rintro e w5 ⟨⟨v, rfl, hv⟩, hb5⟩
    have HV := Lib.hid hv
    have HB5 := Lib.hid hb5
    clear hv hb5
    go_wp2_with fail
    refine bodyPost_ret (v := .tuple #[u, v, .int .i64 0]) (by simp [results, Tryd.results17, go_sem]) rfl ?_
    rw [HO.out.1, HO.out.2.1, HO.out.2.2]
    have s3 := HB3.out.size
    have s4 := HB4.out.size
    exact ⟨⟨u, v, w4.heap.size, rfl, (HU.out.step HB5.out).mono (by omega), HV.out, by omega, fun bb hbb => (World.ownsRow.lt HU.out bb hbb).2⟩, chain (chain HB3.out HB4.out) HB5.out⟩
end Go.Proofs.YthmjcmhaijiedaaDoor

namespace Go.Proofs.YthmjcmhaijiedaaDoor
open Go.RowKit Go.Deep Go.Shelf
set_option linter.unusedVariables false

theorem own_empty (W : World) : OwnI (W.alloc (.cells #[] 2)) W.heap.size (.slice (some ⟨W.heap.size, 0, none⟩) 0 0) [] := World.ownsRow_made W #[] 0 (Nat.le_refl _) (by unfold maxLen; omega) rfl
theorem GivesTwo.two {W w0 : World} (code : Int) (hb : Below W.heap.size W w0) : GivesTwo W [] [] code (.returned (.tuple #[.slice (some ⟨w0.heap.size, 0, Option.none⟩) 0 0, .slice (some ⟨w0.heap.size + 1, 0, Option.none⟩) 0 0, .int .i64 code])) ((w0.alloc (.cells #[] 2)).alloc (.cells #[] 2)) := by
  have h1 := (own_empty w0).step (alloc_b (w0.alloc (.cells #[] 2)) (.cells #[] 2))
  have h2 := own_empty (w0.alloc (.cells #[] 2))
  rw [World.size_alloc] at h2
  have hs := hb.size
  exact ⟨⟨_, _, w0.heap.size + 1, rfl, h1.mono hs, h2, by omega, fun b h => by simp [Value.ownBlock] at h; omega⟩, chain (chain hb (alloc_b _ _)) (alloc_b _ _)⟩

set_option maxRecDepth 100000 in
set_option maxHeartbeats 1000000 in
theorem specFm_any (h l : Int) (a : Option Addr) (z : List Int) (c : Nat) (h2 : Int) (b : Option Addr) (zss : List (List Int)) (d : Nat) (w : World) (hr : Ints w a z) (hl : LenI z) (hq : Rows2 w b zss) (hs : Lens zss) :
    Calls Tryd.prog 14 #[.agg #[.int .i64 h, .int .i64 l, .slice a z.length c], .agg #[.int .i64 h2, .slice b zss.length d]] w (GivesTwo w (fmA h l z h2 zss) (fmB h l z h2 zss) (fmC h l z h2 zss)) := by
  have hb1 := alloc_b w (.cells #[.int .i64 h, .int .i64 l, .slice a z.length c] 32)
  have hb2 := alloc_b (w.alloc (.cells #[.int .i64 h, .int .i64 l, .slice a z.length c] 32)) (.cells #[.int .i64 h2, .slice b zss.length d] 34)
  have HX := Lib.hid ((boxes_new w #[.int .i64 h, .int .i64 l, .slice a z.length c] 32).step hb2)
  have hy := boxes_new (w.alloc (.cells #[.int .i64 h, .int .i64 l, .slice a z.length c] 32)) #[.int .i64 h2, .slice b zss.length d] 34
  rw [World.size_alloc] at hy
  have HY := Lib.hid hy
  have HR := Lib.hid ((hr.step hb1).step hb2)
  have HQ := Lib.hid ((hq.step hb1).step hb2)
  have HB := Lib.hid (chain hb1 hb2)
  have HLZ := Lib.hid hl
  have HS := Lib.hid hs
  clear hr hl hq hs hb1 hb2 hy
  go_enter Tryd.func14, Tryd.ntmps14
  go_wp2_with fail
  generalize (w.alloc (.cells #[.int .i64 h, .int .i64 l, .slice a z.length c] 32)).alloc (.cells #[.int .i64 h2, .slice b zss.length d] 34) = w1 at *
  refine (l07Both_any w.heap.size (w.heap.size + 1) h l a z c h2 b zss d w1 HX.out HY.out HR.out HLZ.out HQ.out HS.out).mono ?_
  rintro e w2 ⟨rfl, hb⟩
  have HX2 := Lib.hid (HX.out.step hb)
  have HY2 := Lib.hid (HY.out.step hb)
  have HR2 := Lib.hid (HR.out.step hb)
  have HQ2 := Lib.hid (HQ.out.step hb)
  have HB2 := Lib.hid (chain HB.out hb)
  clear hb HX HY HR HQ HB
  by_cases hc : bothC h l z h2 zss = 0
  case neg =>
    have HV := Lib.hid (fm_bad hc)
    obtain ⟨fc, hfc⟩ : ∃ fc, bothC h l z h2 zss = fc := ⟨_, rfl⟩
    rw [hfc] at hc HV ⊢
    clear hfc
    go_wp2_with fail
    refine bodyPost_ret (v := .tuple #[.slice (some ⟨w2.heap.size, 0, none⟩) 0 0, .slice (some ⟨w2.heap.size + 1, 0, none⟩) 0 0, .int .i64 fc]) (by simp [results, Tryd.results14, go_sem]) rfl ?_
    rw [HV.out.1, HV.out.2.1, HV.out.2.2]
    exact GivesTwo.two _ HB2.out
  have HC := Lib.hid hc
  have HYN := Lib.hid (fm_none (h2 := h2) (zss := zss) hc)
  have HYY := Lib.hid (fm_yes (h2 := h2) (zss := zss) hc)
  obtain ⟨k, kf, rfl⟩ := both_zero hc
  obtain ⟨m, rfl⟩ : ∃ m : Nat, h = (m : Int) := ⟨h.toNat, by have := k.1.1.1; omega⟩
  have hm1 : 1 ≤ m := by have := k.1.1.1; omega
  have hm5 : m ≤ 5 := by have := k.1.1.2; omega
  have HK := Lib.hid k
  have HFO := Lib.hid (famC_ok kf)
  have HFI := Lib.hid (fun o : fltO (fmY l z zss) z.length = true => flt_in o)
  rw [hc]
  clear hc k kf
  go_wp2_with fail
  refine (l07Open_any m z.length (w.heap.size + 1) b zss d w2 hm1 (by omega) HK.out.len ⟨by rw [HY2.out.cell]; rfl, by rw [HY2.out.cell]; rfl⟩ HQ2.out HS.out (fun i hi => (HFO.out.2.1 i hi).1)).mono ?_
  rintro e w3 ⟨⟨g, cap, rfl, hbo⟩, hb⟩
  have HBO := Lib.hid hbo
  have HX3 := Lib.hid (HX2.out.step hb)
  have HR3 := Lib.hid (HR2.out.step hb)
  have HB3 := Lib.hid (chain HB2.out hb)
  clear hb hbo
  go_wp2_with fail
  refine (l07Misfit_any w.heap.size g z.length cap m l a z c (tblAt zss zss.length) w3 HX3.out HR3.out HK.out rfl HBO.out (fun x _ y _ e f => tbl_up e f)).mono ?_
  rintro e w4 ⟨rfl, hqq⟩
  have HB4 := Lib.hid (chain HB3.out (quiet_below hqq))
  have HX4 := Lib.hid (HX3.out.step (quiet_below hqq))
  clear hqq
  have HLN := Lib.hid HK.out.len
  rw [show togZ z l (tblAt zss zss.length) z.length = fmY l z zss from rfl]
  generalize fmY l z zss = y at *
  cases ho : fltO y z.length with
  | false =>
    have HO := Lib.hid (HYN.out ho)
    clear ho
    go_wp2_with fail
    refine bodyPost_ret (v := .tuple #[.slice (some ⟨w4.heap.size, 0, none⟩) 0 0, .slice (some ⟨w4.heap.size + 1, 0, none⟩) 0 0, .int .i64 6]) (by simp [results, Tryd.results14, go_sem]) rfl ?_
    rw [HO.out.1, HO.out.2.1, HO.out.2.2]
    exact GivesTwo.two _ HB4.out
  | true =>
    have HO := Lib.hid (HYY.out ho)
    obtain ⟨l1, l2⟩ := HFI.out ho
    have L1 := Lib.hid (show fltA y z.length < 2 ^ m by rw [← HLN.out]; exact l1)
    have L2 := Lib.hid (show fltB y z.length < 2 ^ m by rw [← HLN.out]; exact l2)
    clear ho l1 l2
    generalize fltA y z.length = x1 at *
    generalize fltB y z.length = x2 at *
    have p0 := HX4.out.m0
    have pd : w4.drew.cell? ⟨w.heap.size, 0, none⟩ = some (.int .i64 (m : Int)) := by simpa using p0
    have sd : w4.drew.heap.size = w4.heap.size := by simp
    have HSD := Lib.hid sd
    clear sd
    go_wp2_with fail
    go_region_law (go_simp; first
      | (go_at_call_of 53 (Value.int .i64 (x1 : Int)); refine (l06Holders_any x1 m _ hm5 L1.out).mono ?_; rintro e w5 ⟨⟨u, rfl, hu⟩, hb5⟩; have q0 : w5.cell? ⟨w.heap.size, 0, none⟩ = some (.int .i64 (m : Int)) := (by first | exact cell_step hb5 p0 | exact cell_step hb5 pd); have HU := Lib.hid hu; have HB5 := Lib.hid hb5; clear hu hb5)
      | (go_at_call_of 53 (Value.int .i64 (x2 : Int)); refine (l06Holders_any x2 m _ hm5 L2.out).mono ?_; rintro e w6 ⟨⟨v, rfl, hv⟩, hb6⟩; have HV := Lib.hid hv; have HB6 := Lib.hid hb6; clear hv hb6))
    all_goals (
      go_wp2_with fail
      refine bodyPost_ret (v := .tuple #[u, v, .int .i64 0]) (by simp [results, Tryd.results14, go_sem]) rfl ?_
      rw [HO.out.1, HO.out.2.1, HO.out.2.2]
      have s3 := HB4.out.size
      have s4 := HB5.out.size
      have s5 := HSD.out
      exact ⟨⟨u, v, w5.heap.size, rfl, (HU.out.step HB6.out).mono (by omega), HV.out, by omega, fun bb hbb => (World.ownsRow.lt HU.out bb hbb).2⟩, by first | exact chain (chain HB4.out HB5.out) HB6.out | exact chain (chain HB4.out.drew HB5.out) HB6.out⟩)
end Go.Proofs.YthmjcmhaijiedaaDoor

namespace Go.Proofs.YthmjcmhaijiedaaDoor
open Go.RowKit Go.Deep Go.Shelf
set_option linter.unusedVariables false

theorem lo_len : ∀ x : Nat, x < 32 → (listOf x).length ≤ 8 := by decide +kernel
theorem fm_small (h l : Int) (z : List Int) (h2 : Int) (zss : List (List Int)) : (fmA h l z h2 zss).length ≤ 1048576 ∧ (fmB h l z h2 zss).length ≤ 1048576 := by
  by_cases k : bothC h l z h2 zss = 0
  · cases o : fltO (fmY l z zss) z.length with
    | false =>
      obtain ⟨-, e1, e2⟩ := fm_none k o
      rw [e1, e2]
      exact ⟨by simp, by simp⟩
    | true =>
      obtain ⟨-, e1, e2⟩ := fm_yes k o
      rw [e1, e2]
      obtain ⟨i1, i2⟩ := flt_in o
      obtain ⟨q, -, -⟩ := both_zero k
      obtain ⟨m, rfl⟩ : ∃ m : Nat, h = (m : Int) := ⟨h.toNat, by have := q.1.1.1; omega⟩
      have hm : m ≤ 5 := by have := q.1.1.2; omega
      have hz : z.length ≤ 32 := by rw [q.len]; exact pow5 hm
      exact ⟨Nat.le_trans (lo_len _ (by omega)) (by omega), Nat.le_trans (lo_len _ (by omega)) (by omega)⟩
  · obtain ⟨-, e1, e2⟩ := fm_bad k
    rw [e1, e2]
    exact ⟨by simp, by simp⟩
end Go.Proofs.YthmjcmhaijiedaaDoor

namespace Go.Proofs.YthmjcmhaijiedaaDoor
open Go.ChangeShapes Go.WideShapes Go.ChangeAt Go.RowKit Go.Deep
set_option linter.unusedVariables false
namespace Miss

/-- What is carried over the second half. -/
structure Carry (v4 : World) (g0 : Nat) (z0 : List Int) (px0 : Nat) (h0 : Int) (l0 : Int) (g1 : Nat) (z1 : List (List Int)) (px1 : Nat) (h1 : Int) (bs : Nat) (ag : Option Addr) (cg : Nat) (rl : List Int) (bm : Nat) (am : Option Addr) (cm : Nat) (rm : List Int) (W : World) : Prop where
  e : Below v4.heap.size v4 W
  x0 : OwnI W g0 (.slice (some ⟨g0, 0, none⟩) z0.length z0.length) z0
  b0 : Boxes W px0 32 #[.int .i64 h0, .int .i64 l0, .slice (some ⟨g0, 0, none⟩) z0.length z0.length]
  x1 : Own2 W g1 z1
  b1 : Boxes W px1 34 #[.int .i64 h1, .slice (some ⟨g1, 0, none⟩) z1.length z1.length]
  g : OwnI W bs (.slice ag rl.length cg) rl
  gm : OwnI W bm (.slice am rm.length cm) rm
/-- A box that has been laid behind a world. -/
structure NewB (w2 W : World) (q : Nat) (t : TypeId) (vs : Array Value) : Prop where
  lo : w2.heap.size ≤ q
  bx : Boxes W q t vs
theorem NewB.step {w2 W W' : World} {q : Nat} {t : TypeId} {vs : Array Value} (hb : Below W.heap.size W W') (k : NewB w2 W q t vs) : NewB w2 W' q t vs := ⟨k.lo, k.bx.step hb⟩
theorem newb_kept {w2 w w' : World} {t : TypeId} {vs : Array Value} (hE : Below w2.heap.size w2 w) (hb : Below (w.alloc (.cells vs t)).heap.size (w.alloc (.cells vs t)) w') : NewB w2 w' w.heap.size t vs := ⟨hE.size, Boxes.step (World.alloc_heap_new w _) hb⟩
theorem newb_kept2 {w w' : World} {t : TypeId} {vs : Array Value} (hb : Below (w.alloc (.cells vs t)).drew.heap.size (w.alloc (.cells vs t)).drew w') : NewB w w' w.heap.size t vs := ⟨Nat.le_refl _, Boxes.step (Boxes.step (World.alloc_heap_new w _) (drew_step _)) hb⟩
theorem NewB.zero {w2 w : World} {t : TypeId} {vs : Array Value} (hE : Below w2.heap.size w2 w) : NewB w2 (w.alloc (.cells vs t)) w.heap.size t vs := ⟨hE.size, World.alloc_heap_new w _⟩
theorem alloc_step (w : World) (o : Obj) : Below w.heap.size w (w.alloc o) := (Below.refl _ _).alloc (Nat.le_refl _) o
theorem OwnI.below_of {w w' : World} {base lo hi : Nat} {v : Value} {zs : List Int} (k : OwnI w base v zs) (ht : Touch lo hi w w') (hs : ∀ b, v.ownBlock = some b → b < lo) : OwnI w' base v zs := by
  refine ⟨k.1, ?_⟩
  rcases k.2 with h2 | ⟨g, cap, cur, hv, hg, hh, r⟩
  · exact .inl h2
  · exact .inr ⟨g, cap, cur, hv, hg, by rw [ht.block g (Array.getElem?_eq_some_iff.1 hh).1 (.inl (hs g (by rw [hv]; rfl)))]; exact hh, r⟩

theorem Carry.step {v4 : World} {g0 : Nat} {z0 : List Int} {px0 : Nat} {h0 : Int} {l0 : Int} {g1 : Nat} {z1 : List (List Int)} {px1 : Nat} {h1 : Int} {bs : Nat} {ag : Option Addr} {cg : Nat} {rl : List Int} {bm : Nat} {am : Option Addr} {cm : Nat} {rm : List Int} {W W' : World} (hb : Below W.heap.size W W') (k : Carry v4 g0 z0 px0 h0 l0 g1 z1 px1 h1 bs ag cg rl bm am cm rm W) : Carry v4 g0 z0 px0 h0 l0 g1 z1 px1 h1 bs ag cg rl bm am cm rm W' := ⟨chain k.e hb, k.x0.step hb, k.b0.step hb, k.x1.step hb, k.b1.step hb, k.g.step hb, k.gm.step hb⟩
theorem keep4 {w w' : World} {p1 p2 p3 p4 : Addr} {u1 u2 u3 u4 : Value} {C : World → Prop} (hb : Below w.heap.size w w') (hC : C w → C w') (h : w.cell? p1 = some u1 ∧ w.cell? p2 = some u2 ∧ w.cell? p3 = some u3 ∧ w.cell? p4 = some u4 ∧ C w) : w'.cell? p1 = some u1 ∧ w'.cell? p2 = some u2 ∧ w'.cell? p3 = some u3 ∧ w'.cell? p4 = some u4 ∧ C w' :=
  ⟨cell_step hb h.1, cell_step hb h.2.1, cell_step hb h.2.2.1, cell_step hb h.2.2.2.1, hC h.2.2.2.2⟩
theorem keep5 {w w' : World} {p1 p2 p3 p4 p5 : Addr} {u1 u2 u3 u4 u5 : Value} {C : World → Prop} (hb : Below w.heap.size w w') (hC : C w → C w') (h : w.cell? p1 = some u1 ∧ w.cell? p2 = some u2 ∧ w.cell? p3 = some u3 ∧ w.cell? p4 = some u4 ∧ w.cell? p5 = some u5 ∧ C w) : w'.cell? p1 = some u1 ∧ w'.cell? p2 = some u2 ∧ w'.cell? p3 = some u3 ∧ w'.cell? p4 = some u4 ∧ w'.cell? p5 = some u5 ∧ C w' :=
  ⟨cell_step hb h.1, cell_step hb h.2.1, cell_step hb h.2.2.1, cell_step hb h.2.2.2.1, cell_step hb h.2.2.2.2.1, hC h.2.2.2.2.2⟩
theorem keep6 {w w' : World} {p1 p2 p3 p4 p5 p6 : Addr} {u1 u2 u3 u4 u5 u6 : Value} {C : World → Prop} (hb : Below w.heap.size w w') (hC : C w → C w') (h : w.cell? p1 = some u1 ∧ w.cell? p2 = some u2 ∧ w.cell? p3 = some u3 ∧ w.cell? p4 = some u4 ∧ w.cell? p5 = some u5 ∧ w.cell? p6 = some u6 ∧ C w) : w'.cell? p1 = some u1 ∧ w'.cell? p2 = some u2 ∧ w'.cell? p3 = some u3 ∧ w'.cell? p4 = some u4 ∧ w'.cell? p5 = some u5 ∧ w'.cell? p6 = some u6 ∧ C w' :=
  ⟨cell_step hb h.1, cell_step hb h.2.1, cell_step hb h.2.2.1, cell_step hb h.2.2.2.1, cell_step hb h.2.2.2.2.1, cell_step hb h.2.2.2.2.2.1, hC h.2.2.2.2.2.2⟩

set_option maxHeartbeats 4000000 in
set_option maxRecDepth 100000 in
theorem law_of (h0 l0 : Int) (a0 : Option Addr) (z0 : List Int) (c0 : Nat) (h1 : Int) (a1 : Option Addr) (z1 : List (List Int)) (c1 : Nat) (rl rm : List Int) (rc : Int) (w : World) (hr0 : Ints w a0 z0) (hl0 : LenI z0) (wfh0 : (Lit.int .i64 h0).wf = true) (wfl0 : (Lit.int .i64 l0).wf = true) (hr1 : Rows2 w a1 z1) (hl1 : Lens z1) (wfh1 : (Lit.int .i64 h1).wf = true)
    
    (hS : ∀ (b0 : Option Addr) (d0 : Nat) (b1 : Option Addr) (d1 : Nat) (W : World), Ints W b0 z0 → SmI z0 → Rows2 W b1 z1 → Small2 z1 → Calls Tryd.prog 14 #[.agg #[.int .i64 h0, .int .i64 l0, .slice b0 z0.length d0], .agg #[.int .i64 h1, .slice b1 z1.length d1]] W (GivesTwo W rl rm rc))
    (hI : ∀ (b0 : Option Addr) (d0 : Nat) (b1 : Option Addr) (d1 : Nat) (W : World), Ints W b0 z0 → SmI z0 → Rows2 W b1 z1 → Small2 z1 → Calls Tryd.prog 17 #[.agg #[.int .i64 h0, .int .i64 l0, .slice b0 z0.length d0], .agg #[.int .i64 h1, .slice b1 z1.length d1]] W (GivesTwo W rl rm rc))
    (hsm : rl.length ≤ 1048576 ∧ rm.length ≤ 1048576) :
    Calls Tryd.prog 3 #[.agg #[.int .i64 h0, .int .i64 l0, .slice a0 z0.length c0], .agg #[.int .i64 h1, .slice a1 z1.length c1]] w fun e w' => e = .returned (.bool true) ∧ Below w.heap.size w w' := by
  have HSP := Lib.hid hS
  have HIM := Lib.hid hI
  clear hS hI
  have HSM := Lib.hid hsm
  have hn1 : rl.length ≤ 1048576 := hsm.1
  have hn2 : rm.length ≤ 1048576 := hsm.2
  clear hsm
  have D := Lib.hid (Below.refl w.heap.size w)
  have R0 := Lib.hid hr0
  clear hr0
  have L0 := Lib.hid hl0
  clear hl0
  have R1 := Lib.hid hr1
  clear hr1
  have L1 := Lib.hid hl1
  clear hl1
  go_enter Tryd.func3, Tryd.ntmps3
  go_wp2_with fail
  have hb := (Below.refl (w).heap.size (w)).alloc (Nat.le_refl _) (.cells #[.int .i64 h0, .int .i64 l0, .slice a0 z0.length c0] 24)
  have ha0 : Boxes ((w).alloc (.cells #[.int .i64 h0, .int .i64 l0, .slice a0 z0.length c0] 24)) (w).heap.size 24 #[.int .i64 h0, .int .i64 l0, .slice a0 z0.length c0] := World.alloc_heap_new _ _
  replace D := Lib.hid (chain D.out hb)
  replace R0 := Lib.hid (R0.out.step hb)
  replace R1 := Lib.hid (R1.out.step hb)
  clear hb
  have hb := (Below.refl ((w).alloc (.cells #[.int .i64 h0, .int .i64 l0, .slice a0 z0.length c0] 24)).heap.size ((w).alloc (.cells #[.int .i64 h0, .int .i64 l0, .slice a0 z0.length c0] 24))).alloc (Nat.le_refl _) (.cells #[.int .i64 h1, .slice a1 z1.length c1] 27)
  have ha1 : Boxes (((w).alloc (.cells #[.int .i64 h0, .int .i64 l0, .slice a0 z0.length c0] 24)).alloc (.cells #[.int .i64 h1, .slice a1 z1.length c1] 27)) ((w).alloc (.cells #[.int .i64 h0, .int .i64 l0, .slice a0 z0.length c0] 24)).heap.size 27 #[.int .i64 h1, .slice a1 z1.length c1] := World.alloc_heap_new _ _
  replace ha0 := ha0.step hb
  replace D := Lib.hid (chain D.out hb)
  replace R0 := Lib.hid (R0.out.step hb)
  replace R1 := Lib.hid (R1.out.step hb)
  clear hb
  simp only [World.size_alloc] at ha0 ha1
  generalize hv1 : ((w).alloc (.cells #[.int .i64 h0, .int .i64 l0, .slice a0 z0.length c0] 24)).alloc (.cells #[.int .i64 h1, .slice a1 z1.length c1] 27) = v1 at *
  have B0 := Lib.hid ha0
  clear ha0
  have B1 := Lib.hid ha1
  clear ha1
  clear hv1
  refine (szRanks2_any h0 l0 a0 z0 c0 1048576 _ R0.out (by omega) (by omega) L0.out).mono ?_
  rintro e w1 ⟨⟨u0, hu0, rfl⟩, hb⟩
  replace D := Lib.hid (chain D.out hb)
  replace R0 := Lib.hid (R0.out.step hb)
  replace R1 := Lib.hid (R1.out.step hb)
  replace B0 := Lib.hid (B0.out.step hb)
  replace B1 := Lib.hid (B1.out.step hb)
  clear hb
  rcases hu0 with rfl | ⟨hu00, hut0, hu01, hsm0⟩
  · go_wp2_with fail
    go_ret
    exact ⟨rfl, D.out⟩
  have S0 := Lib.hid hsm0
  have hz0 : z0.length ≤ 1048576 := hsm0.1
  clear hsm0
  have TT0 := Lib.hid hut0
  clear hut0
  have B0c0 := (B0.out).m0
  have B0c1 := (B0.out).m1
  have B0c2 := (B0.out).m2
  have B0lt := (B0.out).lt
  have B1c0 := (B1.out).c0
  have B1c1 := (B1.out).c1
  have B1lt := (B1.out).lt
  go_wp2_with fail
  clear B0c0 B0c1 B0c2 B0lt B1c0 B1c1 B1lt
  refine (szFamily2_any h1 a1 z1 c1 u0 _ R1.out (by omega) (by omega) L1.out.1 L1.out.2).mono ?_
  rintro e w2 ⟨⟨u1, hu1, rfl⟩, hb⟩
  replace D := Lib.hid (chain D.out hb)
  replace R0 := Lib.hid (R0.out.step hb)
  replace R1 := Lib.hid (R1.out.step hb)
  replace B0 := Lib.hid (B0.out.step hb)
  replace B1 := Lib.hid (B1.out.step hb)
  clear hb
  rcases hu1 with rfl | ⟨hu10, hut1, hu11, hsm1⟩
  · go_wp2_with fail
    go_ret
    exact ⟨rfl, D.out⟩
  have S1 := Lib.hid hsm1
  have hz1 : z1.length ≤ 1048576 := hsm1.1
  clear hsm1
  have TT1 := Lib.hid hut1
  clear hut1
  have B0c0 := (B0.out).m0
  have B0c1 := (B0.out).m1
  have B0c2 := (B0.out).m2
  have B0lt := (B0.out).lt
  have B1c0 := (B1.out).c0
  have B1c1 := (B1.out).c1
  have B1lt := (B1.out).lt
  go_wp2_with fail
  clear B0c0 B0c1 B0c2 B0lt B1c0 B1c1 B1lt
  have B0c0 := (B0.out).m0
  have B0c1 := (B0.out).m1
  have B0c2 := (B0.out).m2
  have B0lt := (B0.out).lt
  have B1c0 := (B1.out).c0
  have B1c1 := (B1.out).c1
  have B1lt := (B1.out).lt
  have MK := Lib.hid (show ∀ w' : World, Below w2.heap.size w2 w' → Below w2.heap.size w2 w' ∧ w'.cell? ⟨w.heap.size, 0, none⟩ = some (.int .i64 h0) ∧ w'.cell? ⟨w.heap.size, 1, none⟩ = some (.int .i64 l0) ∧ w'.cell? ⟨w.heap.size, 2, none⟩ = some (.slice a0 z0.length c0) ∧ w'.cell? ⟨w.heap.size + 1, 0, none⟩ = some (.int .i64 h1) ∧ w'.cell? ⟨w.heap.size + 1, 1, none⟩ = some (.slice a1 z1.length c1) from fun w' h => ⟨h, cell_step h B0c0, cell_step h B0c1, cell_step h B0c2, cell_step h B1c0, cell_step h B1c1⟩)
  go_cut [6, 7, 8] from 30 to 38 (fun s6 s7 s8 wr => ∃ (ra1 : Option Addr) (rn1 : Nat) (ra2 : Option Addr) (rn2 : Nat), s6 = .slice ra1 rl.length rn1 ∧ s7 = .slice ra2 rm.length rn2 ∧ s8 = .int .i64 rc ∧ Ints wr ra1 rl ∧ Ints wr ra2 rm ∧ Below w2.heap.size w2 wr)
  case first =>
    go_region_held3 (fun w' => Below w2.heap.size w2 w' ∧ w'.cell? ⟨w.heap.size, 0, none⟩ = some (.int .i64 h0) ∧ w'.cell? ⟨w.heap.size, 1, none⟩ = some (.int .i64 l0) ∧ w'.cell? ⟨w.heap.size, 2, none⟩ = some (.slice a0 z0.length c0) ∧ w'.cell? ⟨w.heap.size + 1, 0, none⟩ = some (.int .i64 h1) ∧ w'.cell? ⟨w.heap.size + 1, 1, none⟩ = some (.slice a1 z1.length c1)) (first | exact MK.out _ (drew_step _) | exact MK.out _ (alloc_step _ _).drew | exact MK.out _ (chain (‹Below w2.heap.size w2 _ ∧ _›).1 hb) | fail) (first | (go_at_call_of 15 h0; have KK := (‹Below w2.heap.size w2 _ ∧ _›).1; refine (toRanks_any h0 l0 a0 z0 c0 _ (R0.out.step KK) S0.out).mono ?_; rintro e wf0 ⟨rfl, -, hof0, hb⟩; have EW0 := chain KK hb; clear KK; (try simp only [World.size_drew] at hof0); (try simp only [World.size_alloc] at hof0)) | (go_at_call_of 16 h1; have KK := (‹Below w2.heap.size w2 _ ∧ _›).1; refine (toFamily_any h1 a1 z1 c1 _ (R1.out.step KK) S1.out).mono ?_; rintro e wf1 ⟨rfl, -, hof1, hb⟩; have EW1 := chain KK hb; clear KK; (try simp only [World.size_drew] at hof1); (try simp only [World.size_alloc] at hof1)) | (go_at_call 14; have KK := (‹Below w2.heap.size w2 _ ∧ _›).1; refine (HSP.out _ _ _ _ _ ?_ S0.out ?_ S1.out).mono ?_; (first | exact hof0.rows | exact hof0.rows.step hb | exact hof0.rows.step (alloc_step _ _) | exact (hof0.rows.step hb).step (alloc_step _ _) | exact (hof0.rows.step (alloc_step _ _)).step hb); (first | exact hof1.rows | exact hof1.rows.step hb | exact hof1.rows.step (alloc_step _ _) | exact (hof1.rows.step hb).step (alloc_step _ _) | exact (hof1.rows.step (alloc_step _ _)).step hb); rintro e ws ⟨⟨v1, v2, base, rfl, ho1, ho2, -, -⟩, hb⟩; obtain ⟨ra1, rn1, rfl⟩ := ho1.form; obtain ⟨ra2, rn2, rfl⟩ := ho2.form; have hi1 := Ints_of_own ho1; have hi2 := Ints_of_own ho2; clear ho1 ho2; have KS := chain KK hb; clear KK))
    all_goals (have KF := (‹Below w2.heap.size w2 _ ∧ _›).1; go_wp2_with fail; go_meet; exact ⟨_, _, _, _, rfl, rfl, rfl, hi1, hi2, KF⟩)
  case rest =>
  clear MK B0c0 B0c1 B0c2 B0lt B1c0 B1c1 B1lt
  obtain ⟨ra1, rn1, ra2, rn2, rfl, rfl, rfl, hi1, hi2, hb⟩ := hcut
  obtain ⟨w3, hwn⟩ : ∃ W : World, W = wc := ⟨_, rfl⟩
  subst hwn
  replace D := Lib.hid (chain D.out hb)
  replace R0 := Lib.hid (R0.out.step hb)
  replace R1 := Lib.hid (R1.out.step hb)
  replace B0 := Lib.hid (B0.out.step hb)
  replace B1 := Lib.hid (B1.out.step hb)
  clear hb
  have W0 := Lib.hid hi1
  have W1 := Lib.hid hi2
  clear hi1 hi2
  generalize ra1 = a at *
  generalize rn1 = c at *
  generalize ra2 = aa at *
  generalize rn2 = cc at *
  generalize w3 = v4 at *
  have E := Lib.hid (Below.refl v4.heap.size v4)
  have B0c0 := (B0.out.step E.out).m0
  have B0c1 := (B0.out.step E.out).m1
  have B0c2 := (B0.out.step E.out).m2
  have B0lt := (B0.out.step E.out).lt
  have B1c0 := (B1.out.step E.out).c0
  have B1c1 := (B1.out.step E.out).c1
  have B1lt := (B1.out.step E.out).lt
  go_wp2_with fail
  clear B0c0 B0c1 B0c2 B0lt B1c0 B1c1 B1lt
  refine (toRanks_any h0 l0 a0 z0 c0 _ (R0.out.step E.out) S0.out).mono ?_
  rintro e w4 ⟨rfl, hz, hrow, hb⟩
  obtain ⟨g0, hg0⟩ : ∃ g, v4.heap.size + 3 = g := ⟨_, rfl⟩
  rw [hg0] at hrow ⊢
  have hlo : v4.heap.size ≤ g0 := by omega
  replace E := Lib.hid (chain E.out hb)
  have X0 := Lib.hid hrow
  have G0 := Lib.hid (show v4.heap.size ≤ g0 ∧ g0 + 1 ≤ w4.heap.size from ⟨hlo, by omega⟩)
  clear hb hrow hz hg0 hlo
  have B0c0 := (B0.out.step E.out).m0
  have B0c1 := (B0.out.step E.out).m1
  have B0c2 := (B0.out.step E.out).m2
  have B0lt := (B0.out.step E.out).lt
  have B1c0 := (B1.out.step E.out).c0
  have B1c1 := (B1.out.step E.out).c1
  have B1lt := (B1.out.step E.out).lt
  go_wp2_with fail
  clear B0c0 B0c1 B0c2 B0lt B1c0 B1c1 B1lt
  have hsz : w4.heap.size ≤ (w4.alloc (.cells #[.int .i64 h0, .int .i64 l0, .slice (some ⟨g0, 0, none⟩) z0.length z0.length] 32)).heap.size := by simp
  replace G0 := Lib.hid (show v4.heap.size ≤ g0 ∧ g0 + 1 ≤ (w4.alloc (.cells #[.int .i64 h0, .int .i64 l0, .slice (some ⟨g0, 0, none⟩) z0.length z0.length] 32)).heap.size from ⟨G0.out.1, Nat.le_trans G0.out.2 hsz⟩)
  have HPX0 := Lib.hid (show v4.heap.size ≤ w4.heap.size from E.out.size)
  clear hsz
  have hb := (Below.refl w4.heap.size w4).alloc (Nat.le_refl _) (.cells #[.int .i64 h0, .int .i64 l0, .slice (some ⟨g0, 0, none⟩) z0.length z0.length] 32)
  have ha : Boxes (w4.alloc (.cells #[.int .i64 h0, .int .i64 l0, .slice (some ⟨g0, 0, none⟩) z0.length z0.length] 32)) w4.heap.size 32 #[.int .i64 h0, .int .i64 l0, .slice (some ⟨g0, 0, none⟩) z0.length z0.length] := World.alloc_heap_new w4 _
  generalize w4.alloc (.cells #[.int .i64 h0, .int .i64 l0, .slice (some ⟨g0, 0, none⟩) z0.length z0.length] 32) = y0 at *
  replace E := Lib.hid (chain E.out hb)
  replace X0 := Lib.hid (X0.out.step hb)
  have PX0 := Lib.hid ha
  clear hb ha
  generalize w4.heap.size = px0 at *
  refine (toFamily_any h1 a1 z1 c1 _ (R1.out.step E.out) S1.out).mono ?_
  rintro e w5 ⟨rfl, hz, hrow, hb⟩
  obtain ⟨g1, hg1⟩ : ∃ g, y0.heap.size + 3 = g := ⟨_, rfl⟩
  rw [hg1] at hrow ⊢
  have hlo : v4.heap.size ≤ g1 := by have := G0.out; omega
  replace E := Lib.hid (chain E.out hb)
  replace X0 := Lib.hid (X0.out.step hb)
  replace PX0 := Lib.hid (PX0.out.step hb)
  have X1 := Lib.hid hrow
  have G1 := Lib.hid (show v4.heap.size ≤ g1 ∧ g1 + 1 + z1.length ≤ w5.heap.size from ⟨hlo, by omega⟩)
  have GG1 := Lib.hid (show g0 + 1 ≤ g1 by have := G0.out; omega)
  clear hb hrow hz hg1 hlo
  have B0c0 := (B0.out.step E.out).m0
  have B0c1 := (B0.out.step E.out).m1
  have B0c2 := (B0.out.step E.out).m2
  have B0lt := (B0.out.step E.out).lt
  have B1c0 := (B1.out.step E.out).c0
  have B1c1 := (B1.out.step E.out).c1
  have B1lt := (B1.out.step E.out).lt
  have PX0c0 := (PX0.out).m0
  have PX0c1 := (PX0.out).m1
  have PX0c2 := (PX0.out).m2
  have PX0lt := (PX0.out).lt
  go_wp2_with fail
  clear B0c0 B0c1 B0c2 B0lt B1c0 B1c1 B1lt PX0c0 PX0c1 PX0c2 PX0lt
  have HPQ1 := Lib.hid (show g0 + 1 ≤ w5.heap.size by have := GG1.out; have := G1.out; omega)
  have hsz : w5.heap.size ≤ (w5.alloc (.cells #[.int .i64 h1, .slice (some ⟨g1, 0, none⟩) z1.length z1.length] 34)).heap.size := by simp
  replace G1 := Lib.hid (show v4.heap.size ≤ g1 ∧ g1 + 1 + z1.length ≤ (w5.alloc (.cells #[.int .i64 h1, .slice (some ⟨g1, 0, none⟩) z1.length z1.length] 34)).heap.size from ⟨G1.out.1, Nat.le_trans G1.out.2 hsz⟩)
  have HPX1 := Lib.hid (show v4.heap.size ≤ w5.heap.size from E.out.size)
  clear hsz
  have hb := (Below.refl w5.heap.size w5).alloc (Nat.le_refl _) (.cells #[.int .i64 h1, .slice (some ⟨g1, 0, none⟩) z1.length z1.length] 34)
  have ha : Boxes (w5.alloc (.cells #[.int .i64 h1, .slice (some ⟨g1, 0, none⟩) z1.length z1.length] 34)) w5.heap.size 34 #[.int .i64 h1, .slice (some ⟨g1, 0, none⟩) z1.length z1.length] := World.alloc_heap_new w5 _
  generalize w5.alloc (.cells #[.int .i64 h1, .slice (some ⟨g1, 0, none⟩) z1.length z1.length] 34) = y1 at *
  replace E := Lib.hid (chain E.out hb)
  replace X0 := Lib.hid (X0.out.step hb)
  replace PX0 := Lib.hid (PX0.out.step hb)
  replace X1 := Lib.hid (X1.out.step hb)
  have PX1 := Lib.hid ha
  clear hb ha
  generalize w5.heap.size = px1 at *
  refine (HIM.out _ _ _ _ y1 X0.out.rows S0.out X1.out.rows S1.out).mono ?_
  rintro e w6 ⟨⟨vg, vm, bm, rfl, hown, howm, hbm, hsep⟩, hb⟩
  obtain ⟨ag, cg, rfl⟩ := hown.form
  obtain ⟨am, cm, rfl⟩ := howm.form
  obtain ⟨bs, hbs⟩ : ∃ b, y1.heap.size = b := ⟨_, rfl⟩
  have HBS := Lib.hid (show v4.heap.size ≤ bs by have := G1.out; omega)
  have HQ := Lib.hid (show bs ≤ w6.heap.size by have := hb.size; omega)
  replace E := Lib.hid (chain E.out hb)
  replace X0 := Lib.hid (X0.out.step hb)
  replace PX0 := Lib.hid (PX0.out.step hb)
  replace X1 := Lib.hid (X1.out.step hb)
  replace PX1 := Lib.hid (PX1.out.step hb)
  rw [hbs] at hown hbm
  rw [hbs] at G1
  have GM := Lib.hid howm
  have HBM := Lib.hid hbm
  have HSP2 := Lib.hid hsep
  clear howm hbm hsep
  have G := Lib.hid hown
  clear hb hown hbs
  have B0c0 := (B0.out.step E.out).m0
  have B0c1 := (B0.out.step E.out).m1
  have B0c2 := (B0.out.step E.out).m2
  have B0lt := (B0.out.step E.out).lt
  have B1c0 := (B1.out.step E.out).c0
  have B1c1 := (B1.out.step E.out).c1
  have B1lt := (B1.out.step E.out).lt
  have PX0c0 := (PX0.out).m0
  have PX0c1 := (PX0.out).m1
  have PX0c2 := (PX0.out).m2
  have PX0lt := (PX0.out).lt
  have PX1c0 := (PX1.out).c0
  have PX1c1 := (PX1.out).c1
  have PX1lt := (PX1.out).lt
  go_wp2_with fail
  clear B0c0 B0c1 B0c2 B0lt B1c0 B1c1 B1lt PX0c0 PX0c1 PX0c2 PX0lt PX1c0 PX1c1 PX1lt
  refine (eqInt64S_same ag a rl cg c _ (Ints_of_own G.out) (W0.out.step E.out) (by omega)).mono ?_
  rintro e w7 ⟨rfl, hq⟩
  have hb := quiet_below hq
  clear hq
  replace E := Lib.hid (chain E.out hb)
  replace X0 := Lib.hid (X0.out.step hb)
  replace PX0 := Lib.hid (PX0.out.step hb)
  replace X1 := Lib.hid (X1.out.step hb)
  replace PX1 := Lib.hid (PX1.out.step hb)
  replace GM := Lib.hid (GM.out.step hb)
  replace G := Lib.hid (G.out.step hb)
  clear hb
  go_wp2_with fail
  refine (eqInt64S_same am aa rm cm cc _ (Ints_of_own GM.out) (W1.out.step E.out) (by omega)).mono ?_
  rintro e w8 ⟨rfl, hq⟩
  have hb := quiet_below hq
  clear hq
  replace E := Lib.hid (chain E.out hb)
  replace X0 := Lib.hid (X0.out.step hb)
  replace PX0 := Lib.hid (PX0.out.step hb)
  replace X1 := Lib.hid (X1.out.step hb)
  replace PX1 := Lib.hid (PX1.out.step hb)
  replace GM := Lib.hid (GM.out.step hb)
  replace G := Lib.hid (G.out.step hb)
  clear hb
  have K : Carry v4 g0 z0 px0 h0 l0 g1 z1 px1 h1 bs ag cg rl bm am cm rm _ := ⟨E.out, X0.out, PX0.out, X1.out, PX1.out, G.out, GM.out⟩
  have B0c0 := (B0.out.step E.out).m0
  have B0c1 := (B0.out.step E.out).m1
  have B0c2 := (B0.out.step E.out).m2
  have B0lt := (B0.out.step E.out).lt
  have PX0c0 := (PX0.out).m0
  have PX0c1 := (PX0.out).m1
  have PX0c2 := (PX0.out).m2
  have PX0lt := (PX0.out).lt
  go_wp2_with fail
  go_region_held3 (fun w' => w'.cell? ⟨w.heap.size, 0, none⟩ = some (.int .i64 h0) ∧ w'.cell? ⟨w.heap.size, 1, none⟩ = some (.int .i64 l0) ∧ w'.cell? ⟨w.heap.size, 2, none⟩ = some (.slice a0 z0.length c0) ∧ w'.cell? ⟨px0, 0, none⟩ = some (.int .i64 h0) ∧ w'.cell? ⟨px0, 1, none⟩ = some (.int .i64 l0) ∧ w'.cell? ⟨px0, 2, none⟩ = some (.slice (some ⟨g0, 0, none⟩) z0.length z0.length) ∧ Carry v4 g0 z0 px0 h0 l0 g1 z1 px1 h1 bs ag cg rl bm am cm rm w') (first | exact ⟨cell_step (drew_step _) B0c0, cell_step (drew_step _) B0c1, cell_step (drew_step _) B0c2, cell_step (drew_step _) PX0c0, cell_step (drew_step _) PX0c1, cell_step (drew_step _) PX0c2, K.step (drew_step _)⟩ | exact keep6 hb (fun k => k.step hb) (by assumption)) (first | (go_at_call 15; obtain ⟨_, _, _, _, _, _, KK⟩ := ‹_ ∧ _ ∧ _ ∧ _ ∧ _ ∧ _ ∧ Carry v4 g0 z0 px0 h0 l0 g1 z1 px1 h1 bs ag cg rl bm am cm rm _›; refine (toRanks_any h0 l0 a0 z0 c0 _ (R0.out.step KK.e) S0.out).mono ?_; rintro e wf ⟨rfl, -, hof, hb⟩; have hx1 := KK.x0.step hb; clear KK) | (go_at_call 19; refine (eqRanks_same h0 l0 _ _ z0 _ _ _ hx1.rows hof.rows S0.out.lens).mono ?_; rintro e w9 ⟨rfl, hb⟩))
  clear B0c0 B0c1 B0c2 B0lt PX0c0 PX0c1 PX0c2 PX0lt K hb hx1 hof
  obtain ⟨-, -, -, -, -, -, K⟩ := ‹_ ∧ _ ∧ _ ∧ _ ∧ _ ∧ _ ∧ Carry v4 g0 z0 px0 h0 l0 g1 z1 px1 h1 bs ag cg rl bm am cm rm _›
  replace E := Lib.hid K.e
  replace X0 := Lib.hid K.x0
  replace PX0 := Lib.hid K.b0
  replace X1 := Lib.hid K.x1
  replace PX1 := Lib.hid K.b1
  replace G := Lib.hid K.g
  replace GM := Lib.hid K.gm
  clear K
  have K : Carry v4 g0 z0 px0 h0 l0 g1 z1 px1 h1 bs ag cg rl bm am cm rm _ := ⟨E.out, X0.out, PX0.out, X1.out, PX1.out, G.out, GM.out⟩
  have B1c0 := (B1.out.step E.out).c0
  have B1c1 := (B1.out.step E.out).c1
  have B1lt := (B1.out.step E.out).lt
  have PX1c0 := (PX1.out).c0
  have PX1c1 := (PX1.out).c1
  have PX1lt := (PX1.out).lt
  go_wp2_with fail
  go_region_held3 (fun w' => w'.cell? ⟨w.heap.size + 1, 0, none⟩ = some (.int .i64 h1) ∧ w'.cell? ⟨w.heap.size + 1, 1, none⟩ = some (.slice a1 z1.length c1) ∧ w'.cell? ⟨px1, 0, none⟩ = some (.int .i64 h1) ∧ w'.cell? ⟨px1, 1, none⟩ = some (.slice (some ⟨g1, 0, none⟩) z1.length z1.length) ∧ Carry v4 g0 z0 px0 h0 l0 g1 z1 px1 h1 bs ag cg rl bm am cm rm w') (first | exact ⟨cell_step (drew_step _) B1c0, cell_step (drew_step _) B1c1, cell_step (drew_step _) PX1c0, cell_step (drew_step _) PX1c1, K.step (drew_step _)⟩ | exact keep4 hb (fun k => k.step hb) (by assumption)) (first | (go_at_call 16; obtain ⟨_, _, _, _, KK⟩ := ‹_ ∧ _ ∧ _ ∧ _ ∧ Carry v4 g0 z0 px0 h0 l0 g1 z1 px1 h1 bs ag cg rl bm am cm rm _›; refine (toFamily_any h1 a1 z1 c1 _ (R1.out.step KK.e) S1.out).mono ?_; rintro e wf ⟨rfl, -, hof, hb⟩; have hx1 := KK.x1.step hb; clear KK) | (go_at_call 20; refine (eqFamily_same h1 _ _ z1 _ _ _ hx1.rows hof.rows S1.out.lens.1 S1.out.lens.2).mono ?_; rintro e w9 ⟨rfl, hb⟩))
  clear B1c0 B1c1 B1lt PX1c0 PX1c1 PX1lt K hb hx1 hof
  obtain ⟨-, -, -, -, K⟩ := ‹_ ∧ _ ∧ _ ∧ _ ∧ Carry v4 g0 z0 px0 h0 l0 g1 z1 px1 h1 bs ag cg rl bm am cm rm _›
  replace E := Lib.hid K.e
  replace X0 := Lib.hid K.x0
  replace PX0 := Lib.hid K.b0
  replace X1 := Lib.hid K.x1
  replace PX1 := Lib.hid K.b1
  replace G := Lib.hid K.g
  replace GM := Lib.hid K.gm
  clear K
  have B0c0 := (B0.out.step E.out).m0
  have B0c1 := (B0.out.step E.out).m1
  have B0c2 := (B0.out.step E.out).m2
  have B0lt := (B0.out.step E.out).lt
  have B1c0 := (B1.out.step E.out).c0
  have B1c1 := (B1.out.step E.out).c1
  have B1lt := (B1.out.step E.out).lt
  have PX0c0 := (PX0.out).m0
  have PX0c1 := (PX0.out).m1
  have PX0c2 := (PX0.out).m2
  have PX0lt := (PX0.out).lt
  have PX1c0 := (PX1.out).c0
  have PX1c1 := (PX1.out).c1
  have PX1lt := (PX1.out).lt
  go_wp2_with fail
  clear B0c0 B0c1 B0c2 B0lt B1c0 B1c1 B1lt PX0c0 PX0c1 PX0c2 PX0lt PX1c0 PX1c1 PX1lt
  refine (markRanks3_any h0 l0 g0 _ z0 1 _ X0.out S0.out (by omega) (by omega)).mono ?_
  rintro e w9 ⟨rfl, ht⟩
  have hgl := Nat.le_of_lt (X0.out.lt rfl).2
  have hk0 : (0 : Int) ≤ 1 + (z0.length : Int) := by omega
  have hku0 : 1 + (z0.length : Int) ≤ 1048577 := by have := TT0.out; omega
  generalize 1 + (z0.length : Int) = k0 at hk0 hku0 ⊢
  replace E := Lib.hid (E.out.trans (ht.below G0.out.1 hgl))
  have hhi : g0 + 1 ≤ bs := by have := G1.out.2; have := GG1.out; omega
  replace GM := Lib.hid (ht.own GM.out (Nat.le_trans hhi HBM.out))
  replace G := Lib.hid (ht.own G.out hhi)
  replace X1 := Lib.hid (X1.out.touch ht GG1.out)
  have hpq : g0 + 1 ≤ px1 := HPQ1.out
  replace PX1 := Lib.hid (PX1.out.touch ht hpq)
  clear hpq
  clear ht hgl hhi
  clear X0
  clear PX0
  have PX1c0 := (PX1.out).c0
  have PX1c1 := (PX1.out).c1
  have PX1lt := (PX1.out).lt
  go_wp2_with fail
  clear PX1c0 PX1c1 PX1lt
  refine (markFamily3_any h1 g1 _ z1 k0 _ X1.out S1.out (by omega) (by omega)).mono ?_
  rintro e w10 ⟨rfl, ht⟩
  have hgl := Nat.le_of_lt X1.out.top.lt
  have hk1 : (0 : Int) ≤ k0 + total z1 := by have := total_nonneg z1; omega
  have hku1 : k0 + total z1 ≤ 2097153 := by have := TT1.out; have := total_nonneg z1; omega
  generalize k0 + total z1 = k1 at hk1 hku1 ⊢
  replace E := Lib.hid (E.out.trans (ht.below G1.out.1 hgl))
  have hhi : g1 + 1 + z1.length ≤ bs := by have := G1.out.2; omega
  replace GM := Lib.hid (ht.own GM.out (Nat.le_trans hhi HBM.out))
  replace G := Lib.hid (ht.own G.out hhi)
  clear ht hgl hhi
  clear X1
  clear PX1
  go_wp2_with fail
  refine (eqInt64S_same ag a rl cg c _ (Ints_of_own G.out) (W0.out.step E.out) (by omega)).mono ?_
  rintro e w11 ⟨rfl, hq⟩
  have hb := quiet_below hq
  clear hq
  replace E := Lib.hid (chain E.out hb)
  replace GM := Lib.hid (GM.out.step hb)
  replace G := Lib.hid (G.out.step hb)
  clear hb
  go_wp2_with fail
  refine (eqInt64S_same am aa rm cm cc _ (Ints_of_own GM.out) (W1.out.step E.out) (by omega)).mono ?_
  rintro e w12 ⟨rfl, hq⟩
  have hb := quiet_below hq
  clear hq
  replace E := Lib.hid (chain E.out hb)
  replace GM := Lib.hid (GM.out.step hb)
  replace G := Lib.hid (G.out.step hb)
  clear hb
  go_wp2_with fail
  refine (markInt64S_any _ rl bs 1 _ G.out (by omega) (by omega) (by omega)).mono ?_
  rintro e w13 ⟨rfl, hown, hsz, hgr⟩
  replace E := Lib.hid (E.out.grown hgr E.out.size (fun q hq => Nat.le_trans HBS.out (G.out.lt hq).1))
  replace GM := Lib.hid ((Touch.of_grown hgr (fun q hq => ⟨(G.out.lt hq).1, HSP2.out q hq⟩)).own GM.out (Nat.le_refl _))
  replace G := Lib.hid hown
  clear hown hsz hgr
  go_wp2_with fail
  refine (markInt64S_any _ rm bm (1 + (rl.length : Int)) _ GM.out (by omega) (by omega) (by omega)).mono ?_
  rintro e w14 ⟨rfl, hown, hsz, hgr⟩
  replace E := Lib.hid (E.out.grown hgr E.out.size (fun q hq => Nat.le_trans (Nat.le_trans HBS.out HBM.out) (GM.out.lt hq).1))
  replace G := Lib.hid (OwnI.below_of G.out (Touch.of_grown hgr (fun q hq => GM.out.lt hq)) HSP2.out)
  replace GM := Lib.hid hown
  clear hown hsz hgr
  have t2 : ((1 : Int) + (rl.length : Int) + (rm.length : Int) != (1 : Int) + (rl.length : Int) + (rm.length : Int)) = false := by simp
  have t3 : (decide ((1 : Int) + (rl.length : Int) < 0)) = false := by simp; omega
  have t4 : (decide ((1 : Int) + (rl.length : Int) + (rm.length : Int) < 0)) = false := by simp; omega
  go_wp2_with fail
  refine (heldInt64S_any ag rl.length cg 1 _ (Ints_of_own G.out) (by omega) (by omega) (by omega)).mono ?_
  rintro e w15 ⟨rfl, rfl⟩
  go_wp2_with fail
  refine (heldInt64S_any am rm.length cm (1 + (rl.length : Int)) _ (Ints_of_own GM.out) (by omega) (by omega) (by omega)).mono ?_
  rintro e w16 ⟨rfl, rfl⟩
  have B0c0 := (B0.out.step E.out).m0
  have B0c1 := (B0.out.step E.out).m1
  have B0c2 := (B0.out.step E.out).m2
  have B0lt := (B0.out.step E.out).lt
  have B1c0 := (B1.out.step E.out).c0
  have B1c1 := (B1.out.step E.out).c1
  have B1lt := (B1.out.step E.out).lt
  go_wp2_with fail
  clear B0c0 B0c1 B0c2 B0lt B1c0 B1c1 B1lt
  have B0c0 := (B0.out.step E.out).m0
  have B0c1 := (B0.out.step E.out).m1
  have B0c2 := (B0.out.step E.out).m2
  have B0lt := (B0.out.step E.out).lt
  have B1c0 := (B1.out.step E.out).c0
  have B1c1 := (B1.out.step E.out).c1
  have B1lt := (B1.out.step E.out).lt
  have MK := Lib.hid (show ∀ w' : World, Below w14.heap.size w14 w' → Below w14.heap.size w14 w' ∧ w'.cell? ⟨w.heap.size, 0, none⟩ = some (.int .i64 h0) ∧ w'.cell? ⟨w.heap.size, 1, none⟩ = some (.int .i64 l0) ∧ w'.cell? ⟨w.heap.size, 2, none⟩ = some (.slice a0 z0.length c0) ∧ w'.cell? ⟨w.heap.size + 1, 0, none⟩ = some (.int .i64 h1) ∧ w'.cell? ⟨w.heap.size + 1, 1, none⟩ = some (.slice a1 z1.length c1) from fun w' h => ⟨h, cell_step h B0c0, cell_step h B0c1, cell_step h B0c2, cell_step h B1c0, cell_step h B1c1⟩)
  go_cut [17, 18, 19] from 119 to 127 (fun s17 s18 s19 wr => ∃ (ra1 : Option Addr) (rn1 : Nat) (ra2 : Option Addr) (rn2 : Nat), s17 = .slice ra1 rl.length rn1 ∧ s18 = .slice ra2 rm.length rn2 ∧ s19 = .int .i64 rc ∧ Ints wr ra1 rl ∧ Ints wr ra2 rm ∧ Below w14.heap.size w14 wr)
  case first =>
    go_region_held3 (fun w' => Below w14.heap.size w14 w' ∧ w'.cell? ⟨w.heap.size, 0, none⟩ = some (.int .i64 h0) ∧ w'.cell? ⟨w.heap.size, 1, none⟩ = some (.int .i64 l0) ∧ w'.cell? ⟨w.heap.size, 2, none⟩ = some (.slice a0 z0.length c0) ∧ w'.cell? ⟨w.heap.size + 1, 0, none⟩ = some (.int .i64 h1) ∧ w'.cell? ⟨w.heap.size + 1, 1, none⟩ = some (.slice a1 z1.length c1)) (first | exact MK.out _ (drew_step _) | exact MK.out _ (alloc_step _ _).drew | exact MK.out _ (chain (‹Below w14.heap.size w14 _ ∧ _›).1 hb) | fail) (first | (go_at_call_of 15 h0; have KK := (‹Below w14.heap.size w14 _ ∧ _›).1; refine (toRanks_any h0 l0 a0 z0 c0 _ ((R0.out.step E.out).step KK) S0.out).mono ?_; rintro e wf0 ⟨rfl, -, hof0, hb⟩; have EW0 := chain KK hb; clear KK; (try simp only [World.size_drew] at hof0); (try simp only [World.size_alloc] at hof0)) | (go_at_call_of 16 h1; have KK := (‹Below w14.heap.size w14 _ ∧ _›).1; refine (toFamily_any h1 a1 z1 c1 _ ((R1.out.step E.out).step KK) S1.out).mono ?_; rintro e wf1 ⟨rfl, -, hof1, hb⟩; have EW1 := chain KK hb; clear KK; (try simp only [World.size_drew] at hof1); (try simp only [World.size_alloc] at hof1)) | (go_at_call 17; have KK := (‹Below w14.heap.size w14 _ ∧ _›).1; refine (HIM.out _ _ _ _ _ ?_ S0.out ?_ S1.out).mono ?_; (first | exact hof0.rows | exact hof0.rows.step hb | exact hof0.rows.step (alloc_step _ _) | exact (hof0.rows.step hb).step (alloc_step _ _) | exact (hof0.rows.step (alloc_step _ _)).step hb); (first | exact hof1.rows | exact hof1.rows.step hb | exact hof1.rows.step (alloc_step _ _) | exact (hof1.rows.step hb).step (alloc_step _ _) | exact (hof1.rows.step (alloc_step _ _)).step hb); rintro e ws ⟨⟨v1, v2, base, rfl, ho1, ho2, -, -⟩, hb⟩; obtain ⟨ra1, rn1, rfl⟩ := ho1.form; obtain ⟨ra2, rn2, rfl⟩ := ho2.form; have hi1 := Ints_of_own ho1; have hi2 := Ints_of_own ho2; clear ho1 ho2; have KS := chain KK hb; clear KK))
    all_goals (have KF := (‹Below w14.heap.size w14 _ ∧ _›).1; go_wp2_with fail; go_meet; exact ⟨_, _, _, _, rfl, rfl, rfl, hi1, hi2, KF⟩)
  case rest =>
  clear MK B0c0 B0c1 B0c2 B0lt B1c0 B1c1 B1lt
  obtain ⟨ra1, rn1, ra2, rn2, rfl, rfl, rfl, hi1, hi2, hb⟩ := hcut
  obtain ⟨w17, hwn⟩ : ∃ W : World, W = wc := ⟨_, rfl⟩
  subst hwn
  replace E := Lib.hid (chain E.out hb)
  replace GM := Lib.hid (GM.out.step hb)
  replace G := Lib.hid (G.out.step hb)
  clear hb
  have H := Lib.hid hi1
  have HM := Lib.hid hi2
  clear hi1 hi2
  go_wp2_with fail
  refine (eqInt64S_same _ a rl _ c _ (H.out) (W0.out.step E.out) (by omega)).mono ?_
  rintro e w18 ⟨rfl, hq⟩
  have hb := quiet_below hq
  clear hq
  replace E := Lib.hid (chain E.out hb)
  replace GM := Lib.hid (GM.out.step hb)
  replace G := Lib.hid (G.out.step hb)
  replace H := Lib.hid (H.out.step hb)
  replace HM := Lib.hid (HM.out.step hb)
  clear hb
  go_wp2_with fail
  refine (eqInt64S_same _ aa rm _ cc _ (HM.out) (W1.out.step E.out) (by omega)).mono ?_
  rintro e w19 ⟨rfl, hq⟩
  have hb := quiet_below hq
  clear hq
  replace E := Lib.hid (chain E.out hb)
  replace GM := Lib.hid (GM.out.step hb)
  replace G := Lib.hid (G.out.step hb)
  replace H := Lib.hid (H.out.step hb)
  replace HM := Lib.hid (HM.out.step hb)
  clear hb
  clear H HM
  go_wp2_with fail
  refine (heldInt64S_any ag rl.length cg 1 _ (Ints_of_own G.out) (by omega) (by omega) (by omega)).mono ?_
  rintro e w20 ⟨rfl, rfl⟩
  go_wp2_with fail
  refine (heldInt64S_any am rm.length cm (1 + (rl.length : Int)) _ (Ints_of_own GM.out) (by omega) (by omega) (by omega)).mono ?_
  rintro e w21 ⟨rfl, rfl⟩
  go_wp2_with fail
  go_ret
  exact ⟨rfl, D.out.trans (E.out.mono D.out.size)⟩
end Miss
end Go.Proofs.YthmjcmhaijiedaaDoor

namespace Go.Proofs.YthmjcmhaijiedaaDoor
open Go.ChangeShapes Go.WideShapes Go.ChangeAt Go.RowKit Go.Deep
set_option linter.unusedVariables false
namespace Miss

theorem law (h0 l0 : Int) (a0 : Option Addr) (z0 : List Int) (c0 : Nat) (h1 : Int) (a1 : Option Addr) (z1 : List (List Int)) (c1 : Nat) (w : World) (hr0 : Ints w a0 z0) (hl0 : LenI z0) (wfh0 : (Lit.int .i64 h0).wf = true) (wfl0 : (Lit.int .i64 l0).wf = true) (hr1 : Rows2 w a1 z1) (hl1 : Lens z1) (wfh1 : (Lit.int .i64 h1).wf = true) :
    Calls Tryd.prog 3 #[.agg #[.int .i64 h0, .int .i64 l0, .slice a0 z0.length c0], .agg #[.int .i64 h1, .slice a1 z1.length c1]] w fun e w' => e = .returned (.bool true) ∧ Below w.heap.size w w' :=
  law_of h0 l0 a0 z0 c0 h1 a1 z1 c1 (fmA h0 l0 z0 h1 z1) (fmB h0 l0 z0 h1 z1) (fmC h0 l0 z0 h1 z1) w hr0 hl0 wfh0 wfl0 hr1 hl1 wfh1  (fun _ _ _ _ W r0 s0 r1 s1 => specFm_any h0 l0 _ z0 _ h1 _ z1 _ W r0 s0.lens r1 s1.lens) (fun _ _ _ _ W r0 s0 r1 s1 => implFm_any h0 l0 _ z0 _ h1 _ z1 _ W r0 s0.lens r1 s1) (fm_small _ _ _ _ _)


theorem door_met (os : Os) (args : Array Value) : laidMetH Tryd.prog Rows.fnExactFirstMisfitRow.laid ((World.doorLaid Tryd.prog 62 os).forCall (fun _ _ => 0) ⟨#[], args, []⟩).memory :=
  laidMetH_of_parts3 (fuel := 8) (laidMet_of_run' 8 (by kernel_rfl) (by kernel_rfl)) (by kernel_rfl) (by kernel_rfl)

set_option maxRecDepth 100000 in
set_option maxHeartbeats 100000000 in
theorem lifted (os : Os) (started : os.Started) (H : Type) (enc : TypeId × Value → H) :
    ReturnsInHanded {} Tryd.checked os 3 .any (fun w args => (Rows.fnExactFirstMisfitSpec.pre enc Tryd.prog Tryd.f3 [] false w args ∧ laidMetH Tryd.prog Rows.fnExactFirstMisfitRow.laid w) ∧ sizedMet enc Tryd.prog Tryd.f3 (OpenSpec.ofChange Rows.fnExactFirstMisfitSpec) false w args)
      (Rows.fnExactFirstMisfitSpec.post enc Tryd.prog Tryd.f3 false true false false) := by
  refine returnsInHanded_of_change_and (C := Tryd.checked) (X := fun w _ => laidMetH Tryd.prog Rows.fnExactFirstMisfitRow.laid w) (fun _ _ _ hh h => h.of_heap hh) CardP.own started (by kernel_rfl) Tryd.func3
    (ChangeSpec.witness_shaped (enc := enc) (C := Tryd.checked) (os := os) (X := fun w _ => laidMetH Tryd.prog Rows.fnExactFirstMisfitRow.laid w) false (World.doorLaid Tryd.prog 62 os) #[.agg #[.int .i64 0, .int .i64 0, .slice none 0 0], .agg #[.int .i64 0, .slice none 0 0]] 8 rfl (World.shaped_of_RefB (by kernel_rfl) (by kernel_rfl)) (by kernel_rfl) (by kernel_rfl) (by kernel_rfl) (door_met os _)) ?_
  intro W base args ds gs before hval0 hW _ _ hL _
  have hval : ∀ (j : Nat) t v, Tryd.f3.params[j]? = some t → args[j]? = some v → Value.okWide Tryd.prog W .any base t v := hval0
  have hW' := hW
  obtain ⟨p, q, hA0, hV, rfl, hfz, hnd⟩ := hW
  have hA : DataW.TrodAll enc Tryd.prog W 0 (fun _ => true) true Tryd.f3.params.toList args.toList ds p := hA0
  rw [Tryd.params3] at hA hval
  obtain ⟨v0, vs0, d0, ds0, p0, q0, hargs, rfl, rfl, h0, r0⟩ := trodAll_cons hA
  obtain ⟨v1, vs1, d1, ds1, p1, q1, rfl, rfl, rfl, h1, r1⟩ := trodAll_cons r0
  obtain ⟨rfl, rfl, rfl⟩ := trodAll_nil r1
  obtain rfl : args = #[v0, v1] := by cases args; simp_all
  obtain ⟨rfl, rfl⟩ := trodVars_none hV
  have k0 := h0
  have lt0 : ∀ x ∈ p0, x.block < W.heap.size := by obtain ⟨m, hm⟩ := k0; exact DataW.trod_lt m _ _ _ hm
  obtain ⟨hh0, kk0, a0, z0, c0, rfl, rr0, ll0, wf0, wg0⟩ := open_rk (hval 0 24 v0 rfl rfl) h0
  have k1 := h1
  have lt1 : ∀ x ∈ p1, x.block < W.heap.size := by obtain ⟨m, hm⟩ := k1; exact DataW.trod_lt m _ _ _ hm
  obtain ⟨hh1, a1, z1, c1, rfl, rr1, ll1, wf1⟩ := open_fam (hval 1 27 v1 rfl rfl) h1
  clear hA0 hval0
  refine (law hh0 kk0 a0 z0 c0 hh1 a1 z1 c1 W rr0 ll0 wf0 wg0 rr1 ll1 wf1).mono fun e W' ⟨he, bel⟩ => ?_
  subst he
  exact ⟨_, rfl, _, _, _, [], _, [], hW', trodAll_mk1 (shut_bool Tryd.underlying4 _), (trodAll_cons_mk (Below.trod CardP.laidOut (by kernel_rfl) (of_decide_eq_true (by kernel_rfl)) k0 bel lt0) (trodAll_cons_mk (Below.trod CardP.laidOut (by kernel_rfl) (of_decide_eq_true (by kernel_rfl)) k1 bel lt1) trodAll_mk0)), rfl, bel.frame _, fun h => by cases h⟩


end Miss
end Go.Proofs.YthmjcmhaijiedaaDoor

namespace Go.Proofs.YthmjcmhaijiedaaDoor
open Go.ChangeShapes Go.WideShapes Go.ChangeAt Go.RowKit Go.Deep
set_option linter.unusedVariables false
namespace Miss

theorem over : Rows.fnExactFirstMisfitRow.holds Tryd.pinned (OpenSpec.ofChange Rows.fnExactFirstMisfitSpec) :=
  OpenClaim.holds_of_wide 3 Tryd.f3 rfl rfl rfl rfl rfl rfl rfl ⟨rfl, rfl, rfl, rfl, rfl⟩ rfl rfl rfl rfl rfl (by kernel_rfl) Tryd.func3 closed
    (of_decide_eq_true (by kernel_rfl)) (by unfold Func.isWrapper; first | (rw [if_pos (by decide +kernel)]; kernel_rfl) | (rw [if_neg (by decide +kernel)]; exact ⟨rfl, rfl⟩))
    (fun os started H enc _ => lifted os started H enc)

theorem said : Rows.FnExactFirstMisfitSaid := over

end Miss
end Go.Proofs.YthmjcmhaijiedaaDoor

namespace Go.Proofs.YthmjcmhaijiedaaDoor
open Go.ChangeShapes Go.WideShapes Go.ChangeAt Go.RowKit Go.Deep
set_option linter.unusedVariables false
namespace Miss

theorem plain (f : FuncId) (fn : Func) (hf : Tryd.pinned.checked.prog.funcNamed "loop.example/g01117/laws.FnExactFirstMisfit" = some f) (hfn : Tryd.pinned.checked.prog.funcs[f]? = some fn) :
    true = Tryd.pinned.checked.prog.looks [] ∧ ∀ (j : Nat) t, fn.params[j]? = some t → Tryd.pinned.checked.prog.wantsStandIn t = false := by
  obtain rfl : f = 3 := Option.some.inj (c_named.symm.trans hf) |>.symm
  obtain rfl : fn = Tryd.f3 := (Option.some.inj (Tryd.func3.symm.trans hfn)).symm
  refine ⟨CardP.looks, fun j t ht => ?_⟩
  rw [Tryd.params3] at ht
  have hm : t ∈ [24, 27] := by simpa using Array.mem_of_getElem? ht
  have hall := c_stand
  exact (show Tryd.prog.wantsStandIn t = false by simpa using List.all_eq_true.1 hall t hm)

theorem card : Rows.FnExactFirstMisfitCardSaid :=
  Claim7.holds_tied_plain_at .later [] _ _ _ _ said (fun _ h => by cases h) c_wf (fun _ h => by cases h) fnExactFirstMisfit_row_tie rfl ⟨rfl, rfl⟩ c_main rfl plain c_goes

end Miss
end Go.Proofs.YthmjcmhaijiedaaDoor
