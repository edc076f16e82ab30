/- TableText of the model. -/
import Derived.Test.YtgndekojodpmkaaDoorWt0
import Derived.Test.YtgndekojodpmkaaDoorDec
import Derived.Test.YtgndekojodpmkaaDoorVtm
import Derived.Test.YtgndekojodpmkaaDoorCls
namespace Go.Proofs.YtgndekojodpmkaaDoor
open Go.RowKit Go.Deep
set_option linter.unusedVariables false

set_option maxRecDepth 100000 in
set_option maxHeartbeats 1000000 in
theorem l06List_any (a : Option Addr) (zs : List Int) (cc : Nat) (w : World) (h : Ints w a zs) (hd : Digs zs) (hl : zs.length ≤ 1000) :
    Calls Tryd.prog 72 #[.slice a zs.length cc] w fun e w' => e = .returned (.string ⟨(numText zs).toArray⟩) ∧ Below w.heap.size w w' := by
  have HI := Lib.hid h
  have HD := Lib.hid hd
  clear h hd
  go_enter Tryd.func72, Tryd.ntmps72
  go_wp2_with fail
  go_loopw [3, 4] (fun s i wr => ∃ (k : Nat) (t : ByteArray), k ≤ zs.length ∧ i = .int .i64 k ∧ s = .string t ∧ t = ⟨(numText (zs.take k)).toArray⟩ ∧ t.size ≤ 3 * k ∧ Below w.heap.size w wr)
    (fun _ i _ => zs.length - (intOf i).toNat)
  case atStart => exact ⟨0, ⟨#[]⟩, Nat.zero_le _, rfl, rfl, by simp [numText], by decide, Below.refl _ _⟩
  case round =>
    obtain ⟨k, t, hk, rfl, rfl, ht, hts, hb⟩ := hrel
    have HT := Lib.hid ht
    have HB := Lib.hid hb
    clear ht hb
    by_cases hlt : k < zs.length
    · rcases HI.out.below HB.out (Nat.le_refl _) with h | ⟨b, o, rfl, hc⟩
      · rw [h] at hlt; exact absurd hlt (Nat.not_lt_zero _)
      have hcell := hc k hlt
      have hi0 : (k : Int) < (zs.length : Int) := by omega
      obtain ⟨z0, z1⟩ := HD.out k hlt
      have HST := Lib.hid (numText_snoc zs hlt)
      have hdx := fun W => decimalI_any (nth zs k) z0 z1 W
      have sx := dec_sz (nth zs k) z0 z1
      have HDX := Lib.hid (show (⟨(Lib.decDigits (nth zs k).toNat).toArray⟩ : ByteArray).data.toList = Lib.decDigits (nth zs k).toNat from rfl)
      generalize (⟨(Lib.decDigits (nth zs k).toNat).toArray⟩ : ByteArray) = dx at *
      generalize nth zs k = x at *
      have HX9 := Lib.hid hdx
      clear hc hdx z0 z1
      go_wp2_with (go_at_call 71; refine (HX9.out _).mono ?_; rintro e wd ⟨rfl, hbd⟩; have HBD := Lib.hid (HB.out.trans (hbd.mono HB.out.size)); clear hbd)
      go_roundw
      case rel =>
        refine ⟨k + 1, t ++ ((⟨#[32]⟩ : ByteArray) ++ dx), by omega, by go_num, rfl, ?_, ?_, HBD.out⟩
        · rw [HST.out]
          apply ByteArray.ext
          apply Array.toList_inj.1
          have := congrArg (fun b : ByteArray => b.data.toList) HT.out
          simp [ByteArray.data_append] at this ⊢
          rw [this, ← HDX.out]; try simp
        · simp only [ByteArray.size_append]; show t.size + (1 + dx.size) ≤ _; omega
      case measure => simp [intOf]; omega
    · have HE := Lib.hid (show k = zs.length by omega)
      go_wp2_with fail
      go_ret
      refine ⟨?_, HB.out⟩
      have h1 := HT.out
      rw [HE.out, List.take_length] at h1
      rw [h1]; rfl

theorem lst_text {zs : List Int} (hd : Digs zs) : (⟨(numText zs).toArray⟩ : ByteArray).size ≤ 3 * zs.length := by
  have := numText_len zs hd zs.length (Nat.le_refl _)
  rw [List.take_length] at this
  simpa [ByteArray.size] using this
set_option maxRecDepth 100000 in
set_option maxHeartbeats 4000000 in
theorem l06Text_any (q0 : Nat) (h : Int) (ao : Option Addr) (yo : List Int) (co : Nat) (a : Option Addr) (z : List (List Int)) (c : Nat) (w : World) (hx : Boxes w q0 30 #[.int .i64 h, .slice ao yo.length co, .slice a z.length c]) (hr : InT w ao yo a z) (hf : Full z) (hok : TabOk h yo z) :
    Calls Tryd.prog 36 #[.pointer (some ⟨q0, 0, none⟩)] w fun e w' => e = .returned (.string ⟨(tabHead h yo ++ tabRows z).toArray⟩) ∧ Below w.heap.size w w' := by
  have HM := Lib.hid hok
  have HR := Lib.hid hr
  have HX := Lib.hid hx
  have HF := Lib.hid hf
  obtain ⟨⟨z0, z1⟩, hdg, hl7⟩ := tab_head hok
  have hz700 := hok.2.1.2
  have hhl := tabHead_len hok
  have q0' := hx.m0
  have q1 := hx.m1
  have q2 := hx.m2
  have hd1 := fun W => decimalI_any h z0 z1 W
  have s1 := dec_sz h z0 z1
  have hl1 := fun W hW => l06List_any ao yo co W hW hdg (by omega)
  have s2 := lst_text hdg
  have HDD := Lib.hid (show ((⟨#[116, 97, 98, 108, 101, 32]⟩ : ByteArray) ++ (⟨(Lib.decDigits h.toNat).toArray⟩ : ByteArray) ++ (⟨(numText yo).toArray⟩ : ByteArray) ++ (⟨#[10]⟩ : ByteArray)) = ⟨(tabHead h yo ++ tabRows (z.take 0)).toArray⟩ by
    apply ByteArray.ext
    apply Array.toList_inj.1
    simp [ByteArray.data_append, tabHead, lineL, wTab, tabRows])
  generalize (⟨(Lib.decDigits h.toNat).toArray⟩ : ByteArray) = dh at *
  generalize (⟨(numText yo).toArray⟩ : ByteArray) = dn at *
  have HD1 := Lib.hid hd1
  have HL1 := Lib.hid hl1
  clear hok hr hx hf z0 z1 hdg hd1 hl1
  obtain ⟨f, hff, hg⟩ := class_of w
  have HS := Lib.hid hff
  have HMK := Lib.hid hg
  have p0 : ∀ t, (f t).cell? ⟨q0, 0, none⟩ = some (.int .i64 h) := fun t => cell_step (hff t) q0'
  have p1 : ∀ t, (f t).cell? ⟨q0, 1, none⟩ = some (.slice ao yo.length co) := fun t => cell_step (hff t) q1
  have k1 : ¬ 9223372036854775807 < 6 + dh.size := by omega
  have k2 : ¬ 9223372036854775807 < (⟨#[116, 97, 98, 108, 101, 32]⟩ : ByteArray).size + dh.size := by show ¬ _ < 6 + dh.size; omega
  have k3 : ¬ 9223372036854775807 < ((⟨#[116, 97, 98, 108, 101, 32]⟩ : ByteArray) ++ dh).size + dn.size := by rw [ByteArray.size_append]; show ¬ _ < 6 + dh.size + dn.size; omega
  have k4 : ¬ 9223372036854775807 < 6 + dh.size + dn.size := by omega
  have k5 : ¬ 9223372036854775807 < ((⟨#[116, 97, 98, 108, 101, 32]⟩ : ByteArray) ++ dh ++ dn).size + 1 := by rw [ByteArray.size_append, ByteArray.size_append]; show ¬ _ < 6 + dh.size + dn.size + 1; omega
  have k6 : ¬ 9223372036854775807 < 6 + dh.size + dn.size + 1 := by omega
  have k7 : ¬ 9223372036854775807 < ((⟨#[116, 97, 98, 108, 101, 32]⟩ : ByteArray) ++ dh ++ dn).size + (⟨#[10]⟩ : ByteArray).size := by rw [ByteArray.size_append, ByteArray.size_append]; show ¬ _ < 6 + dh.size + dn.size + 1; omega
  have hsz : ((⟨#[116, 97, 98, 108, 101, 32]⟩ : ByteArray) ++ dh ++ dn ++ (⟨#[10]⟩ : ByteArray)).size ≤ 40 := by simp only [ByteArray.size_append]; show 6 + dh.size + dn.size + 1 ≤ 40; omega
  clear hff hg
  go_enter Tryd.func36, Tryd.ntmps36
  go_wp2_with fail
  refine region_class (fun w' => ∃ t, w' = f t) (by kernel_rfl) (by kernel_rfl) (HMK.out _ (drew_step _)) ?_
  repeat (first | go_big_quiet_skip | (go_big_quiet_want; go_big_quiet_op; first | go_big_quiet_on | go_big_quiet_call (first | (go_at_call 71; refine (HD1.out _).mono ?_; rintro e wf ⟨rfl, hb⟩; exact ⟨rfl, HMK.out _ (chain (HS.out _) hb)⟩) | (go_at_call 72; refine (HL1.out _ (HR.out.o.step (HS.out _))).mono ?_; rintro e wf ⟨rfl, hb⟩; exact ⟨rfl, HMK.out _ (chain (HS.out _) hb)⟩))))
  refine wpQuiet_nil ?_
  intro wq hwq
  obtain ⟨t, rfl⟩ := hwq
  have HB2 := Lib.hid (HS.out t)
  have x2 := cell_step (HS.out t) q2
  clear p0 p1 HS HMK k1 k2 k3 k4 k5 k6 k7
  generalize f t = w2 at *
  generalize ((⟨#[116, 97, 98, 108, 101, 32]⟩ : ByteArray) ++ dh ++ dn ++ (⟨#[10]⟩ : ByteArray)) = hd at *
  clear HD1 HL1
  go_wp2_with fail
  go_loopw [3, 4] (fun s i wr => ∃ (k : Nat) (t : ByteArray), k ≤ z.length ∧ i = .int .i64 k ∧ s = .string t ∧ t = ⟨(tabHead h yo ++ tabRows (z.take k)).toArray⟩ ∧ t.size ≤ 40 + 40 * k ∧ Below w.heap.size w wr)
    (fun _ i _ => z.length - (intOf i).toNat)
  case atStart => exact ⟨0, hd, Nat.zero_le _, rfl, rfl, HDD.out, by omega, HB2.out⟩
  case round =>
    obtain ⟨k, t, hk, rfl, rfl, ht, hts, hb⟩ := hrel
    have HTT := Lib.hid ht
    have HB := Lib.hid hb
    have y2 := (HX.out.step hb).m2
    clear ht hb HDD HB2 x2
    by_cases hlt : k < z.length
    · rcases HR.out.r.below HB.out (Nat.le_refl _) with hh | ⟨rb, ro, rfl, hc⟩
      · rw [hh] at hlt; exact absurd hlt (Nat.not_lt_zero _)
      obtain ⟨ai, ci, g0, g1, hints⟩ := hc k hlt
      have hki : (k : Int) < (z.length : Int) := by omega
      obtain ⟨⟨s0, s1'⟩, hdg, hlen⟩ := tab_case HM.out hlt
      have hrl := tabRow_len HM.out HF.out hlt
      have HTR := Lib.hid (tabRow_of (row_split (HF.out k hlt)))
      have HSN := Lib.hid (show tabHead h yo ++ tabRows (z.take (k + 1)) = (tabHead h yo ++ tabRows (z.take k)) ++ tabRow (nthL z k) by rw [tabRows_snoc z hlt, List.append_assoc])
      generalize sec z k = s at g0 s0 s1' HTR
      generalize shs z k = sh at g1 hints hdg hlen HTR
      generalize nthL z k = row at *
      have hd1 := fun W => decimalI_any s s0 s1' W
      have v1 := dec_sz s s0 s1'
      have hl1 := fun W hW => l06List_any ai sh ci W hW hdg (by omega)
      have v2 := lst_text hdg
      have HDD := Lib.hid (show t ++ (((((⟨#[114, 111, 119, 32]⟩ : ByteArray) ++ (⟨(Lib.decDigits s.toNat).toArray⟩ : ByteArray)) ++ (⟨#[32, 58]⟩ : ByteArray)) ++ (⟨(numText sh).toArray⟩ : ByteArray)) ++ (⟨#[10]⟩ : ByteArray)) = ⟨(tabHead h yo ++ tabRows (z.take (k + 1))).toArray⟩ by
        rw [HSN.out, HTR.out]
        apply ByteArray.ext
        apply Array.toList_inj.1
        have := congrArg (fun b : ByteArray => b.data.toList) HTT.out
        simp [ByteArray.data_append] at this ⊢
        rw [this]
        simp [lineL, wRow4, wCol])
      generalize (⟨(Lib.decDigits s.toNat).toArray⟩ : ByteArray) = ds at *
      generalize (⟨(numText sh).toArray⟩ : ByteArray) = dn at *
      have HD1 := Lib.hid hd1
      have HL1 := Lib.hid hl1
      have HIN := Lib.hid hints
      obtain ⟨f, hff, hg⟩ := class_of wr
      have HS := Lib.hid hff
      have HMK := Lib.hid hg
      have p0 : ∀ t, (f t).cell? ⟨q0, 2, none⟩ = some (.slice (some ⟨rb, ro, none⟩) z.length c) := fun t => cell_step (hff t) y2
      have p1 : ∀ t, (f t).cell? ⟨rb, ro + k * 2, none⟩ = some (.int .i64 s) := fun t => cell_step (hff t) g0
      have p2 : ∀ t, (f t).cell? ⟨rb, ro + k * 2 + 1, none⟩ = some (.slice ai sh.length ci) := fun t => cell_step (hff t) g1
      have k1 : ¬ 9223372036854775807 < 4 + ds.size := by omega
      have k2 : ¬ 9223372036854775807 < (⟨#[114, 111, 119, 32]⟩ : ByteArray).size + ds.size := by show ¬ _ < 4 + ds.size; omega
      have k3 : ¬ 9223372036854775807 < ((⟨#[114, 111, 119, 32]⟩ : ByteArray) ++ ds).size + 2 := by rw [ByteArray.size_append]; show ¬ _ < 4 + ds.size + 2; omega
      have k4 : ¬ 9223372036854775807 < 4 + ds.size + 2 := by omega
      have k5 : ¬ 9223372036854775807 < ((⟨#[114, 111, 119, 32]⟩ : ByteArray) ++ ds).size + (⟨#[32, 58]⟩ : ByteArray).size := by rw [ByteArray.size_append]; show ¬ _ < 4 + ds.size + 2; omega
      have k6 : ¬ 9223372036854775807 < ((⟨#[114, 111, 119, 32]⟩ : ByteArray) ++ ds ++ (⟨#[32, 58]⟩ : ByteArray)).size + dn.size := by simp only [ByteArray.size_append]; show ¬ _ < 4 + ds.size + 2 + dn.size; omega
      have k7 : ¬ 9223372036854775807 < 4 + ds.size + 2 + dn.size := by omega
      have k8 : ¬ 9223372036854775807 < ((⟨#[114, 111, 119, 32]⟩ : ByteArray) ++ ds ++ (⟨#[32, 58]⟩ : ByteArray) ++ dn).size + 1 := by simp only [ByteArray.size_append]; show ¬ _ < 4 + ds.size + 2 + dn.size + 1; omega
      have k9 : ¬ 9223372036854775807 < 4 + ds.size + 2 + dn.size + 1 := by omega
      have k10 : ¬ 9223372036854775807 < ((⟨#[114, 111, 119, 32]⟩ : ByteArray) ++ ds ++ (⟨#[32, 58]⟩ : ByteArray) ++ dn).size + (⟨#[10]⟩ : ByteArray).size := by simp only [ByteArray.size_append]; show ¬ _ < 4 + ds.size + 2 + dn.size + 1; omega
      have k11 : ¬ 9223372036854775807 < t.size + ((⟨#[114, 111, 119, 32]⟩ : ByteArray) ++ ds ++ (⟨#[32, 58]⟩ : ByteArray) ++ dn ++ (⟨#[10]⟩ : ByteArray)).size := by simp only [ByteArray.size_append]; show ¬ _ < t.size + (4 + ds.size + 2 + dn.size + 1); omega
      have k12 : ¬ 9223372036854775807 < t.size + (4 + ds.size + 2 + dn.size + 1) := by omega
      have hsz : (t ++ (((((⟨#[114, 111, 119, 32]⟩ : ByteArray) ++ ds) ++ (⟨#[32, 58]⟩ : ByteArray)) ++ dn) ++ (⟨#[10]⟩ : ByteArray))).size ≤ 40 + 40 * (k + 1) := by simp only [ByteArray.size_append]; show t.size + (4 + ds.size + 2 + dn.size + 1) ≤ _; omega
      clear hff hg hc hd1 hl1 hints hdg s0 s1'
      go_wp2_with fail
      refine region_class (fun w' => ∃ t, w' = f t) (by kernel_rfl) (by kernel_rfl) (HMK.out _ (drew_step _)) ?_
      repeat (first | go_big_quiet_skip | (go_big_quiet_want; go_big_quiet_op; first | go_big_quiet_on | go_big_quiet_call (first | (go_at_call 71; refine (HD1.out _).mono ?_; rintro e wf ⟨rfl, hb⟩; exact ⟨rfl, HMK.out _ (chain (HS.out _) hb)⟩) | (go_at_call 72; refine (HL1.out _ (HIN.out.step (HS.out _))).mono ?_; rintro e wf ⟨rfl, hb⟩; exact ⟨rfl, HMK.out _ (chain (HS.out _) hb)⟩))))
      refine wpQuiet_nil ?_
      intro wq hwq
      obtain ⟨t2, rfl⟩ := hwq
      have HB3 := Lib.hid (HB.out.trans ((HS.out t2).mono HB.out.size))
      clear p0 p1 p2 HS HMK k1 k2 k3 k4 k5 k6 k7 k8 k9 k10 k11 k12
      generalize f t2 = w3 at *
      go_wp2_with fail
      go_roundw
      case rel => exact ⟨k + 1, _, by omega, by go_num, rfl, HDD.out, hsz, HB3.out⟩
      case measure => simp [intOf]; omega
    · have HK := Lib.hid (show k = z.length by omega)
      go_wp2_with fail
      go_ret
      refine ⟨?_, HB.out⟩
      have h1 := HTT.out
      rw [HK.out, List.take_length] at h1
      rw [h1]; rfl

set_option maxRecDepth 100000 in
theorem specWt_any (h : Int) (ao : Option Addr) (yo : List Int) (co : Nat) (a : Option Addr) (z : List (List Int)) (c : Nat) (w : World) (hr : InT w ao yo a z) (hl : LenT yo z) :
    Calls Tryd.prog 10 #[.agg #[.int .i64 h, .slice ao yo.length co, .slice a z.length c]] w fun e w' => e = .returned (.string (tabTextV h yo z)) ∧ Below w.heap.size w w' := by
  have HL := Lib.hid hl
  have hb0 := (Below.refl w.heap.size w).alloc (Nat.le_refl _) (.cells #[.int .i64 h, .slice ao yo.length co, .slice a z.length c] 30)
  have HR := Lib.hid (hr.step hb0)
  have HX := Lib.hid (show Boxes (w.alloc (.cells #[.int .i64 h, .slice ao yo.length co, .slice a z.length c] 30)) w.heap.size 30 #[.int .i64 h, .slice ao yo.length co, .slice a z.length c] from World.alloc_heap_new w _)
  have HB0 := Lib.hid hb0
  clear hr hl hb0
  go_enter Tryd.func10, Tryd.ntmps10
  go_wp2_with fail
  refine (l06Ok_any w.heap.size h ao yo co a z c _ HX.out HR.out HL.out).mono ?_
  generalize (w.alloc (.cells #[.int .i64 h, .slice ao yo.length co, .slice a z.length c] 30)) = w1 at *
  rintro e w2 ⟨rfl, hq⟩
  have HB2 := Lib.hid (chain HB0.out (quiet_below hq))
  have HR2 := Lib.hid (HR.out.step (quiet_below hq))
  have HX2 := Lib.hid (HX.out.step (quiet_below hq))
  clear hq HX HR
  by_cases hm : TabOk h yo z
  case neg =>
    have HT := Lib.hid (tell_false hm)
    have HV := Lib.hid (show tabTextV h yo z = ⟨#[]⟩ by rw [tabTextV, HT.out]; rfl)
    clear hm
    rw [HT.out]
    go_wp2_with fail
    go_ret
    exact ⟨by rw [HV.out]; rfl, HB2.out⟩
  have HT := Lib.hid (tell_true hm)
  have HM := Lib.hid hm
  have HV := Lib.hid (show tabTextV h yo z = ⟨(tabHead h yo ++ tabRows z).toArray⟩ by rw [tabTextV, HT.out]; rfl)
  clear hm
  rw [HT.out]
  go_wp2_with fail
  refine (l06Text_any w.heap.size h ao yo co a z c _ HX2.out HR2.out HL.out.full HM.out).mono ?_
  rintro e w3 ⟨rfl, hb3⟩
  have HB3 := Lib.hid (chain HB2.out hb3)
  clear hb3
  rw [← HV.out]
  go_wp2_with fail
  go_ret
  exact ⟨rfl, HB3.out⟩
end Go.Proofs.YtgndekojodpmkaaDoor
