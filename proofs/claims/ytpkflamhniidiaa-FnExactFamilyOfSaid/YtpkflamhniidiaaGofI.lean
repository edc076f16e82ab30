/- The program's FamilyOf. -/
import Derived.Test.YtpkflamhniidiaaGof
namespace Go.Proofs.Ytpkflamhniidiaa
open Go.RowKit Go.Deep Go.Shelf
set_option linter.unusedVariables false

theorem opens_chooses (T h : Nat) (q : Nat → Bool) (w : World) (ht : TableAt w T h q) : Chooses w 30 #[.pointer (some ⟨T, 0, none⟩)] #[] q := by
  refine ⟨enters_of Try.func30 (by kernel_rfl) rfl, fun x W hb => ?_⟩
  show Calls Try.prog 30 #[.pointer (some ⟨T, 0, none⟩), .int .u64 (x.val : Int)] W _
  have hT : TableAt W T h q := ht.below hb (World.block_lt_of_cell? _ _ ht.h0)
  refine (opens_any T h x.val q W x.isLt hT).mono ?_
  rintro e w' ⟨rfl, rfl⟩
  exact ⟨rfl, Below.refl _ _⟩

theorem bits_small {h : Int} {zss : List (List Int)} (hg : ∀ i, i < zss.length → IsGrp h (nthL zss i)) (h7 : h ≤ 7) : AllSmall (bitsUpTo zss zss.length) := fun i hi => by
  have hi' : i < zss.length := by rwa [bitsUpTo_len] at hi
  rw [bitsUpTo_nth zss hi']
  exact bitsOf_lt (hg i hi') h7

set_option maxHeartbeats 1000000 in
set_option maxRecDepth 100000 in
theorem implGof_any (h : Int) (a : Option Addr) (zss : List (List Int)) (c : Nat) (w : World) (hr : Rows2 w a zss) (hl : Small2 zss) : Calls Try.prog 9 #[.int .i64 h, .slice a zss.length c] w (GivesFO w (gofOf h zss)) := by
  have hll := hl.1
  by_cases c1 : h < 1
  · have HV := Lib.hid (gofOf_no (h := h) (zss := zss) fun k => by have := k.1; omega)
    clear hr hl
    go_enter Try.func9, Try.ntmps9
    go_wp2_with fail
    refine bodyPost_ret (v := .tuple #[.agg #[.int .i64 0, .slice none 0 0], .int .i64 2]) (by simp [results, Try.results9, go_sem]) rfl ?_
    rw [HV.out]
    exact GivesFO.no _ (by go_grown)
  · have n1 : 1 ≤ h := by omega
    clear c1
    by_cases c2 : 7 < h
    · have HV := Lib.hid (gofOf_no (h := h) (zss := zss) fun k => by have := k.1; omega)
      clear hr hl
      go_enter Try.func9, Try.ntmps9
      go_wp2_with fail
      refine bodyPost_ret (v := .tuple #[.agg #[.int .i64 0, .slice none 0 0], .int .i64 2]) (by simp [results, Try.results9, go_sem]) rfl ?_
      rw [HV.out]
      exact GivesFO.no _ (by go_grown)
    · have n7 : h ≤ 7 := by omega
      clear c2
      by_cases c3 : 200 < zss.length
      · have HV := Lib.hid (gofOf_no (h := h) (zss := zss) fun k => by have := k.2.1; omega)
        have hki : (200 : Int) < (zss.length : Int) := by omega
        clear hr hl
        go_enter Try.func9, Try.ntmps9
        go_wp2_with fail
        refine bodyPost_ret (v := .tuple #[.agg #[.int .i64 0, .slice none 0 0], .int .i64 2]) (by simp [results, Try.results9, go_sem]) rfl ?_
        rw [HV.out]
        exact GivesFO.no _ (by go_grown)
      · have hk : zss.length ≤ 200 := by omega
        have hki : ((zss.length : Nat) : Int) ≤ 200 := by omega
        clear c3
        obtain ⟨i0, hi, hz0, hz1, hz2⟩ := info_parts Try.infoSet
        have hB0 := (Below.refl w.heap.size w).alloc (Nat.le_refl _) (.cells #[.int .i64 0, .slice none 0 0] 25)
        have hF0 : Boxes1 (w.alloc (.cells #[.int .i64 0, .slice none 0 0] 25)) w.heap.size := World.alloc_heap_new w _
        have HA := Lib.hid (hr.step hB0)
        have HL := Lib.hid hl.lens
        have HB := Lib.hid hB0
        have HF := Lib.hid hF0
        clear hr hl hB0 hF0
        go_enter Try.func9, Try.ntmps9
        go_wp2_with fail
        generalize w.alloc (.cells #[.int .i64 0, .slice none 0 0] 25) = w1 at *
        have hZ := HF.out.lt
        go_loopw [6, 25] (fun v i wr => ∃ k : Nat, k ≤ zss.length ∧ i = .int .i64 k ∧ wr.ownsRow w1.heap.size 49 1 v k (setVals (bitsUpTo zss k)) ∧ Below w1.heap.size w1 wr ∧ ∀ j, j < k → IsGrp h (nthL zss j))
          (fun _ i _ => zss.length - (intOf i).toNat)
        case atStart => exact ⟨0, Nat.zero_le _, rfl, World.ownsRow_nil _ _ _ _, Below.refl _ _, fun j hj => absurd hj (Nat.not_lt_zero _)⟩
        case round =>
          obtain ⟨k, hk, rfl, hown, hbel, hall⟩ := hrel
          have HALL := Lib.hid hall
          have HO := Lib.hid hown
          have HB1 := Lib.hid hbel
          have HFW := Lib.hid (HF.out.step hbel)
          have HBW := Lib.hid (chain HB.out hbel)
          have HAW := Lib.hid (HA.out.step hbel)
          have hszr := hbel.size
          clear hall hown hbel
          by_cases hlt : k < zss.length
          · rcases HAW.out with h0 | ⟨b, o, rfl, hc⟩
            · rw [h0] at hlt; exact absurd hlt (Nat.not_lt_zero _)
            obtain ⟨ai, ci, hcell, hints⟩ := hc k hlt
            have hji : (k : Int) < (zss.length : Int) := by omega
            have HI := Lib.hid hints
            clear hc hints
            by_cases hg : IsGrp h (nthL zss k)
            · have hgt := Lib.hid (show setVal h (nthL zss k) = .tuple #[.int .u64 ((bitsOf (nthL zss k) : Nat) : Int), .bool true] by rw [setVal, tell_true hg]; rfl)
              have HG := Lib.hid hg
              clear hg
              go_wp2_with fail
              refine (setOf_any ai (nthL zss k) ci h wr HI.out n7 (HL.out.2 k hlt)).mono ?_
              rintro e w' ⟨rfl, rfl⟩
              rw [hgt.out]
              go_wp2_with (at_builtin; refine wpList_append_own _ rfl _ _ 47 rfl w1.heap.size 49 i0 (.int .u64 0) 1 8 Try.underlying47 hi hz0 hz1 hz2 rfl (by decide) _ _ _ rfl (HO.out.alloc _) ⟨wr.heap.size, 0, none⟩ 1 1 [.int .u64 ((bitsOf (nthL zss k) : Nat) : Int)] rfl rfl (cell_one_new _ _ _) (by simp [Value.oneCell']) (by unfold maxLen; omega) (by omega) (by simp; omega) ?_; intro v' w2 hown1 hgrow1 _)
              go_wp2
              go_roundw
              case rel =>
                refine ⟨k + 1, by omega, by go_num, by rw [bitsUpTo_succ]; exact hown1, ?_, fun j hj => ?_⟩
                · exact (HB1.out.alloc hszr _).grown hgrow1 (by simp; omega) (fun q hq => by have := (HO.out.lt q hq).1; exact this)
                · by_cases e : j = k
                  · subst e; exact HG.out
                  · exact HALL.out j (by omega)
              case measure => simp [intOf]; omega
            · have hgt := Lib.hid (show setVal h (nthL zss k) = .tuple #[.int .u64 0, .bool false] by rw [setVal, tell_false hg]; rfl)
              have HV := Lib.hid (gofOf_no (h := h) (zss := zss) fun q => hg (q.2.2 k hlt))
              have c0 := HFW.out.c0
              have c1 := HFW.out.c1
              have f0 := HFW.out.f 0
              have f1 := HFW.out.f 1
              clear hg
              go_wp2_with fail
              refine (setOf_any ai (nthL zss k) ci h wr HI.out n7 (HL.out.2 k hlt)).mono ?_
              rintro e w' ⟨rfl, rfl⟩
              rw [hgt.out]
              go_wp2_with fail
              refine bodyPost_ret (v := .tuple #[.agg #[.int .i64 0, .slice none 0 0], .int .i64 2]) (by simp [results, Try.results9, go_sem, c0, c1]) rfl ?_
              rw [HV.out]
              exact GivesFO.no _ ((HBW.out.setCell (by simp) _).setCell (by simp) _)
          · have HE := Lib.hid (show k = zss.length by omega)
            have HW := Lib.hid (show ∀ i, i < zss.length → IsGrp h (nthL zss i) from fun i hi => HALL.out i (by omega))
            have HV := Lib.hid (gofOf_yes (h := h) (zss := zss) ⟨⟨n1, n7⟩, by omega, HW.out⟩)
            have HSM := Lib.hid (bits_small HW.out n7)
            have hown := HO.out
            rw [HE.out] at hown
            obtain ⟨a2, c2, rfl, hsets, hlen⟩ := Sets.of_owns (l := bitsUpTo zss zss.length) (by rw [bitsUpTo_len]; exact hown)
            have HSE := Lib.hid hsets
            clear hsets hown
            obtain ⟨m, rfl⟩ : ∃ m : Nat, h = (m : Int) := ⟨h.toNat, by omega⟩
            have m1 : 1 ≤ m := by omega
            have m7 : m ≤ 7 := by omega
            have hZ2 : famOf (((m : Nat) : Int)).toNat (tblAt zss zss.length) = famOf m (seenBy (anyIn (bitsUpTo zss zss.length)) (lexAll m)) := by
              rw [Int.toNat_natCast]; exact famOf_congr m7 fun y hy => (seenBy_all m7 _ hy).symm
            rw [hZ2] at HV
            clear hZ2
            generalize bitsUpTo zss zss.length = l at *
            go_wp2_with fail
            refine (newTable_any m a2 l c2 wr m1 m7 HSE.out HSM.out hlen).mono ?_
            rintro e w2 ⟨⟨T, rfl, hT, htab⟩, hb2⟩
            have HTA := Lib.hid htab
            have HF2 := Lib.hid (HFW.out.step hb2)
            have HB2 := Lib.hid (chain HBW.out hb2)
            clear htab hb2
            generalize seenBy (anyIn l) (lexAll m) = q at *
            go_wp2_with fail
            refine (famWhere_any m _ #[.pointer (some ⟨T, 0, none⟩)] #[] q w2 m1 m7 (opens_chooses T m q w2 HTA.out)).mono ?_
            rintro e w3 ⟨⟨v, us, rfl, hrow, hrows⟩, hb⟩
            obtain ⟨va, vc, rfl⟩ := rowForm hrow
            have hZ3 := HF2.out.lt
            have hf' := HF2.out.step hb
            have c0 := hf'.c0
            have c1 := hf'.c1
            have f0 := hf'.f 0
            have f1 := hf'.f 1
            have HR := Lib.hid hrow
            have HRS := Lib.hid hrows
            have HB3 := Lib.hid (chain HB2.out hb)
            clear hrow hrows hb hf'
            generalize famOf m q = Z at *
            go_wp2_with fail
            refine bodyPost_ret (v := .tuple #[.agg #[.int .i64 (m : Nat), .slice va Z.length vc], .int .i64 0]) (by simp [results, Try.results9, go_sem, c0, c1]) rfl ?_
            rw [HV.out]
            exact ⟨⟨_, us, rfl, ownsRow_mono (row_set (row_set HR.out hZ3 _) hZ3 _) (Nat.le_of_lt hZ3), (HRS.out.map fun u zs hu => row_set (row_set hu hZ3 _) hZ3 _).mono (Nat.le_of_lt hZ3)⟩, (HB3.out.setCell (by simp <;> omega) _).setCell (by simp <;> omega) _⟩
end Go.Proofs.Ytpkflamhniidiaa
