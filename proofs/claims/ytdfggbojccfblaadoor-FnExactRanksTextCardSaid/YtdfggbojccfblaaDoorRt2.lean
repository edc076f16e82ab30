/- RanksText of the model; the table of powers of ten from the row's list. -/
import Derived.Test.YtdfggbojccfblaaDoorRt1
import Derived.Test.YtdfggbojccfblaaDoorH6
import Derived.Test.YtdfggbojccfblaaDoorRvm
import Derived.Test.YtdfggbojccfblaaDoorRows
import Derived.LaidSub
import Derived.Lib.LaidTab
namespace Go.Proofs.YtdfggbojccfblaaDoor
open Go.RowKit Go.Deep
set_option linter.unusedVariables false

set_option maxRecDepth 100000 in
theorem pow_of {W : World} (h : laidMetH Tryd.prog Rows.fnExactRanksTextRow.laid W) : PowTab W := by
  have h1 := (laidMetH_iff.1 h).1
  have h2 := h1.filter (fun x => x.1 == "internal/strconv.uint64pow10")
  have e : ((Rows.fnExactRanksTextRow.laid.filter fun x => x.2.handleName?.isNone).filter fun x => x.1 == "internal/strconv.uint64pow10") = [("internal/strconv.uint64pow10", Lib.tabData .u64 Lib.pow10Tab)] := by kernel_rfl
  rw [e] at h2
  exact Lib.tabIs_of_head (g := 0) (t := 165) (e := 74) (n := 20) (by kernel_rfl) (by kernel_rfl) (by kernel_rfl) (by kernel_rfl) (by kernel_rfl) (by kernel_rfl) h2

theorem group_text {k m : Nat} (hm : m ≤ 5) (hk : k < 2 ^ m) : groupText (listOf k) = textOf (listOf k) := by
  have h := listOf_grp hm hk
  rw [groupText, if_pos (tell_true (show IsGrp 7 (listOf k) from fun i hi => ⟨(h i hi).1, by have := (h i hi).2.1; omega, (h i hi).2.2⟩))]

set_option maxRecDepth 100000 in
set_option maxHeartbeats 4000000 in
theorem specRt_any (h l : Int) (a : Option Addr) (z : List Int) (c : Nat) (w : World) (hr : Ints w a z) (hl : LenI z) :
    Calls Tryd.prog 9 #[.agg #[.int .i64 h, .int .i64 l, .slice a z.length c]] w fun e w' => e = .returned (.string (rkTextV h l z)) ∧ Below w.heap.size w w' := by
  have HL := Lib.hid hl
  have hb0 := (Below.refl w.heap.size w).alloc (Nat.le_refl _) (.cells #[.int .i64 h, .int .i64 l, .slice a z.length c] 27)
  have HR := Lib.hid (hr.step hb0)
  have HX := Lib.hid (boxes_new w #[.int .i64 h, .int .i64 l, .slice a z.length c] 27)
  have HB0 := Lib.hid hb0
  clear hr hl hb0
  go_enter Tryd.func9, Tryd.ntmps9
  go_wp2_with fail
  refine (l07Ok_any w.heap.size h l a z c _ HX.out HR.out HL.out).mono ?_
  generalize w.alloc (.cells #[.int .i64 h, .int .i64 l, .slice a z.length c] 27) = w1 at *
  rintro e w2 ⟨rfl, hqq⟩
  have HB2 := Lib.hid (chain HB0.out (quiet_below hqq))
  have HR2 := Lib.hid (HR.out.step (quiet_below hqq))
  have HX2 := Lib.hid (HX.out.step (quiet_below hqq))
  clear hqq HX HR
  by_cases hm : RkOk h l z
  case neg =>
    have HT := Lib.hid (tell_false hm)
    have HV := Lib.hid (show rkTextV h l z = ⟨#[]⟩ by rw [rkTextV, HT.out]; rfl)
    clear hm
    rw [HT.out]
    go_wp2_with fail
    go_ret
    exact ⟨by rw [HV.out]; rfl, HB2.out⟩
  obtain ⟨m, rfl⟩ : ∃ m : Nat, h = (m : Int) := ⟨h.toNat, by have := hm.1.1; omega⟩
  have hm5 : m ≤ 5 := by have := hm.1.1; omega
  have HT := Lib.hid (tell_true hm)
  have HM := Lib.hid hm
  have hzm : z.length = 2 ^ m := by have := hm.1.2.2; simpa using this
  have hz32 : z.length ≤ 32 := by rw [hzm]; exact pow5 hm5
  have HZM := Lib.hid hzm
  have HV := Lib.hid (show rkTextV (m : Int) l z = ⟨(rkHead (m : Int) l ++ rkRowsTo z z.length).toArray⟩ by rw [rkTextV, HT.out]; rfl)
  have z0 : (0 : Int) ≤ (m : Int) := by omega
  have z1 : (m : Int) < 1000000000000 := by omega
  have z2 : (0 : Int) ≤ l := by have := hm.1.2.1; omega
  have z3 : l < 1000000000000 := by have := hm.1.2.1; omega
  clear hm hzm
  rw [HT.out]
  have hd1 := fun W => decimalM_any (m : Int) z0 z1 W
  have hd2 := fun W => decimalM_any l z2 z3 W
  have s1 := digs_size (n := (m : Int).toNat) (by omega)
  have s2 := digs_size (n := l.toNat) (by omega)
  have HDD := Lib.hid (show ((((⟨#[114, 97, 110, 107, 115, 32]⟩ : ByteArray) ++ (⟨(Lib.decDigits (m : Int).toNat).toArray⟩ : ByteArray)) ++ (⟨#[32]⟩ : ByteArray)) ++ (⟨(Lib.decDigits l.toNat).toArray⟩ : ByteArray)) ++ (⟨#[10]⟩ : ByteArray) = ⟨(rkHead (m : Int) l ++ rkRowsTo z 0).toArray⟩ by
    apply ByteArray.ext
    apply Array.toList_inj.1
    simp [ByteArray.data_append, rkHead, lineL, numText, wRanks, rkRowsTo])
  generalize (⟨(Lib.decDigits (m : Int).toNat).toArray⟩ : ByteArray) = da at *
  generalize (⟨(Lib.decDigits l.toNat).toArray⟩ : ByteArray) = db at *
  have HD1 := Lib.hid hd1
  have HD2 := Lib.hid hd2
  clear hd1 hd2 z0 z1 z2 z3
  have x0 := HX2.out.m0
  have x1 := HX2.out.m1
  obtain ⟨f, hff, hg⟩ := class_of w2
  have HS := Lib.hid hff
  have HMK := Lib.hid hg
  have p0 : ∀ t, (f t).cell? ⟨w.heap.size, 0, none⟩ = some (.int .i64 (m : Int)) := fun t => cell_step (hff t) x0
  have p1 : ∀ t, (f t).cell? ⟨w.heap.size, 1, none⟩ = some (.int .i64 l) := fun t => cell_step (hff t) x1
  have k1 : ¬ 9223372036854775807 < 6 + da.size := by omega
  have k2 : ¬ 9223372036854775807 < (⟨#[114, 97, 110, 107, 115, 32]⟩ : ByteArray).size + da.size := by show ¬ _ < 6 + da.size; omega
  have k3 : ¬ 9223372036854775807 < ((⟨#[114, 97, 110, 107, 115, 32]⟩ : ByteArray) ++ da).size + 1 := by rw [ByteArray.size_append]; show ¬ _ < 6 + da.size + 1; omega
  have k4 : ¬ 9223372036854775807 < 6 + da.size + 1 := by omega
  have k5 : ¬ 9223372036854775807 < ((⟨#[114, 97, 110, 107, 115, 32]⟩ : ByteArray) ++ da).size + (⟨#[32]⟩ : ByteArray).size := by rw [ByteArray.size_append]; show ¬ _ < 6 + da.size + 1; omega
  have k6 : ¬ 9223372036854775807 < ((⟨#[114, 97, 110, 107, 115, 32]⟩ : ByteArray) ++ da ++ (⟨#[32]⟩ : ByteArray)).size + db.size := by simp only [ByteArray.size_append]; show ¬ _ < 6 + da.size + 1 + db.size; omega
  have k7 : ¬ 9223372036854775807 < 6 + da.size + 1 + db.size := by omega
  have k8 : ¬ 9223372036854775807 < ((⟨#[114, 97, 110, 107, 115, 32]⟩ : ByteArray) ++ da ++ (⟨#[32]⟩ : ByteArray) ++ db).size + 1 := by simp only [ByteArray.size_append]; show ¬ _ < 6 + da.size + 1 + db.size + 1; omega
  have k9 : ¬ 9223372036854775807 < 6 + da.size + 1 + db.size + 1 := by omega
  have k10 : ¬ 9223372036854775807 < ((⟨#[114, 97, 110, 107, 115, 32]⟩ : ByteArray) ++ da ++ (⟨#[32]⟩ : ByteArray) ++ db).size + (⟨#[10]⟩ : ByteArray).size := by simp only [ByteArray.size_append]; show ¬ _ < 6 + da.size + 1 + db.size + 1; omega
  have hsz : ((⟨#[114, 97, 110, 107, 115, 32]⟩ : ByteArray) ++ da ++ (⟨#[32]⟩ : ByteArray) ++ db ++ (⟨#[10]⟩ : ByteArray)).size ≤ 100 := by simp only [ByteArray.size_append]; show 6 + da.size + 1 + db.size + 1 ≤ 100; omega
  clear hff hg x0 x1
  go_wp2_with fail
  refine region_class (fun w' => ∃ t, w' = f t) (by kernel_rfl) (by kernel_rfl) (HMK.out _ (drew_step _)) ?_
  repeat (first | go_big_quiet_skip | (go_big_quiet_want; go_big_quiet_op; first | go_big_quiet_on | go_big_quiet_call (first | (go_at_call_of 36 (Value.int .i64 (m : Int)); refine (HD1.out _).mono ?_; rintro e wf ⟨rfl, hb⟩; exact ⟨rfl, HMK.out _ (chain (HS.out _) hb)⟩) | (go_at_call_of 36 (Value.int .i64 l); refine (HD2.out _).mono ?_; rintro e wf ⟨rfl, hb⟩; exact ⟨rfl, HMK.out _ (chain (HS.out _) hb)⟩))))
  refine wpQuiet_nil ?_
  intro wq hwq
  obtain ⟨t, rfl⟩ := hwq
  have HB3 := Lib.hid (HS.out t)
  clear p0 p1 HS HMK k1 k2 k3 k4 k5 k6 k7 k8 k9 k10 HD1 HD2
  generalize f t = w3 at *
  generalize ((⟨#[114, 97, 110, 107, 115, 32]⟩ : ByteArray) ++ da ++ (⟨#[32]⟩ : ByteArray) ++ db ++ (⟨#[10]⟩ : ByteArray)) = hd at *
  go_wp2_with fail
  go_loopw [3, 4] (fun s i wr => ∃ (k : Nat) (t : ByteArray), k ≤ z.length ∧ i = .int .i64 k ∧ s = .string t ∧ t = ⟨(rkHead (m : Int) l ++ rkRowsTo z k).toArray⟩ ∧ t.size ≤ 100 + 40 * k ∧ Below w2.heap.size w2 wr)
    (fun _ i _ => z.length - (intOf i).toNat)
  case atStart => exact ⟨0, hd, Nat.zero_le _, rfl, rfl, HDD.out, by omega, HB3.out⟩
  case round =>
    obtain ⟨k, t, hk, rfl, rfl, ht, hts, hb⟩ := hrel
    have HTT := Lib.hid ht
    have HB := Lib.hid hb
    have y0 := (HX2.out.step hb).m0
    have y2 := (HX2.out.step hb).m2
    clear ht hb HDD HB3
    by_cases hlt : k < z.length
    · rcases HR2.out.below HB.out (Nat.le_refl _) with hh | ⟨rb, ro, rfl, hc⟩
      · rw [hh] at hlt; exact absurd hlt (Nat.not_lt_zero _)
      have hcell := hc k hlt
      have hki : (k : Int) < (z.length : Int) := by omega
      have hkm : k < 2 ^ m := by rw [← HZM.out]; exact hlt
      have htl := small_text (k := k) (by omega)
      have hsk := HM.out.2.2.1 k hlt
      have hd1 := fun W => decimalM_any (nth z k) hsk.1 (by omega) W
      have s3 := digs_size (n := (nth z k).toNat) (by omega)
      have HH6 := Lib.hid (fun W => l06Holders_any k m W hm5 hkm)
      have HGT := Lib.hid (group_text hm5 hkm)
      have hll := Nat.le_trans (listTo_len k 7) (by decide : 7 ≤ 9223372036854775807)
      have HSN := Lib.hid (show rkHead (m : Int) l ++ rkRowsTo z (k + 1) = (rkHead (m : Int) l ++ rkRowsTo z k) ++ ((textOf (listOf k)).data.toList ++ (32 :: Lib.decDigits (nth z k).toNat) ++ [10]) by rw [rkRowsTo, List.append_assoc]; simp [rkRow, lineL, numText])
      have HDD := Lib.hid (show t ++ (((textOf (listOf k) ++ (⟨#[32]⟩ : ByteArray)) ++ (⟨(Lib.decDigits (nth z k).toNat).toArray⟩ : ByteArray)) ++ (⟨#[10]⟩ : ByteArray)) = ⟨(rkHead (m : Int) l ++ rkRowsTo z (k + 1)).toArray⟩ by
        rw [HSN.out]
        apply ByteArray.ext
        apply Array.toList_inj.1
        have := congrArg (fun b : ByteArray => b.data.toList) HTT.out
        simp [ByteArray.data_append] at this ⊢
        rw [this]; simp)
      generalize (⟨(Lib.decDigits (nth z k).toNat).toArray⟩ : ByteArray) = dx at *
      have HD1 := Lib.hid hd1
      clear hc hd1 hsk hkm
      generalize nth z k = x at *
      have HLL := Lib.hid (show (listOf k).length ≤ 9223372036854775807 from hll)
      clear hll
      generalize hlo : listOf k = lo at *
      generalize textOf lo = tx at *
      have k1 : ¬ 9223372036854775807 < tx.size + 1 := by omega
      have k2 : ¬ 9223372036854775807 < tx.size + (⟨#[32]⟩ : ByteArray).size := by show ¬ _ < tx.size + 1; omega
      have k3 : ¬ 9223372036854775807 < (tx ++ (⟨#[32]⟩ : ByteArray)).size + dx.size := by rw [ByteArray.size_append]; show ¬ _ < tx.size + 1 + dx.size; omega
      have k4 : ¬ 9223372036854775807 < tx.size + 1 + dx.size := by omega
      have k5 : ¬ 9223372036854775807 < (tx ++ (⟨#[32]⟩ : ByteArray) ++ dx).size + 1 := by simp only [ByteArray.size_append]; show ¬ _ < tx.size + 1 + dx.size + 1; omega
      have k6 : ¬ 9223372036854775807 < tx.size + 1 + dx.size + 1 := by omega
      have k7 : ¬ 9223372036854775807 < (tx ++ (⟨#[32]⟩ : ByteArray) ++ dx).size + (⟨#[10]⟩ : ByteArray).size := by simp only [ByteArray.size_append]; show ¬ _ < tx.size + 1 + dx.size + 1; omega
      have k8 : ¬ 9223372036854775807 < t.size + (tx ++ (⟨#[32]⟩ : ByteArray) ++ dx ++ (⟨#[10]⟩ : ByteArray)).size := by simp only [ByteArray.size_append]; show ¬ _ < t.size + (tx.size + 1 + dx.size + 1); omega
      have k9 : ¬ 9223372036854775807 < t.size + (tx.size + 1 + dx.size + 1) := by omega
      have hsz : (t ++ (((tx ++ (⟨#[32]⟩ : ByteArray)) ++ dx) ++ (⟨#[10]⟩ : ByteArray))).size ≤ 100 + 40 * (k + 1) := by simp only [ByteArray.size_append]; show t.size + (tx.size + 1 + dx.size + 1) ≤ _; omega
      have y0d : wr.drew.cell? ⟨w.heap.size, 0, none⟩ = some (.int .i64 (m : Int)) := by simpa using y0
      have MK := Lib.hid (show ∀ w' : World, Below wr.heap.size wr w' → Below wr.heap.size wr w' ∧ w'.cell? ⟨w.heap.size, 0, none⟩ = some (.int .i64 (m : Int)) ∧ w'.cell? ⟨w.heap.size, 2, none⟩ = some (.slice (some ⟨rb, ro, none⟩) z.length c) ∧ w'.cell? ⟨rb, ro + k, none⟩ = some (.int .i64 x) from fun w' hw => ⟨hw, cell_step hw y0, cell_step hw y2, cell_step hw hcell⟩)
      go_wp2_with fail
      go_region_held3 (fun w' => Below wr.heap.size wr w' ∧ w'.cell? ⟨w.heap.size, 0, none⟩ = some (.int .i64 (m : Int)) ∧ w'.cell? ⟨w.heap.size, 2, none⟩ = some (.slice (some ⟨rb, ro, none⟩) z.length c) ∧ w'.cell? ⟨rb, ro + k, none⟩ = some (.int .i64 x)) (first | exact MK.out _ (drew_step _) | exact MK.out _ (chain (‹Below wr.heap.size wr _ ∧ _›).1 hb) | fail) (first
        | (go_at_call 38; have KK := (‹Below wr.heap.size wr _ ∧ _›).1; refine (HH6.out _).mono ?_; rintro e wh ⟨⟨vh, rfl, hvh⟩, hb⟩; obtain ⟨ah, ch, rfl, hih, -⟩ := hvh.ints; have HIH := Lib.hid hih; clear hvh hih KK)
        | (go_at_call 37; have KK := (‹Below wr.heap.size wr _ ∧ _›).1; refine (specText_any _ _ _ _ HIH.out HLL.out).mono ?_; rintro e wg ⟨rfl, hb⟩; rw [HGT.out]; clear KK)
        | (go_at_call 36; have KK := (‹Below wr.heap.size wr _ ∧ _›).1; refine (HD1.out _).mono ?_; rintro e wd ⟨rfl, hb⟩; clear KK))
      all_goals (
        have KF := Lib.hid (HB.out.trans (((‹Below wr.heap.size wr _ ∧ _›).1).mono HB.out.size))
        go_wp2_with fail
        go_roundw
        case rel => exact ⟨k + 1, _, by omega, by go_num, rfl, HDD.out, hsz, KF.out⟩
        case measure => simp [intOf]; omega)
    · have HK := Lib.hid (show k = z.length by omega)
      go_wp2_with fail
      go_ret
      refine ⟨?_, HB2.out.trans (HB.out.mono HB2.out.size)⟩
      have h1 := HTT.out
      rw [HK.out] at h1
      rw [h1, HV.out]; rfl
end Go.Proofs.YtdfggbojccfblaaDoor
