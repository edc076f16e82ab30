/- ScaleCurve of the model. -/
import Derived.Test.YtgndekojodpmkaaDoorSum
import Derived.Test.YtgndekojodpmkaaDoorScI
namespace Go.Proofs.YtgndekojodpmkaaDoor
open Go.RowKit Go.Deep
set_option linter.unusedVariables false

theorem addTo_nil (p f : Int) (zs : List Int) : addTo p f [] zs zs.length = zs.map (fun x => f * x % p) := by
  refine ext_nth (by rw [addTo_len]; simp) fun i hi => ?_
  rw [addTo_len] at hi
  have h2 : i < zs.length := by simp at hi; omega
  rw [addTo_nth _ _ _ _ hi, if_pos h2, nth_out (show ([] : List Int).length ≤ i by simp), nth_lt (l := zs.map (fun x => f * x % p)) (by rw [List.length_map]; exact h2), List.getElem_map, nth_lt h2, Int.zero_add, Int.mul_comm]
theorem scZs_len (p : Int) (zs : List Int) (f : Int) : (scZs p zs f).length ≤ 1048576 := by
  unfold scZs
  split
  · rename_i h
    have h7 : zs.length ≤ 7 := by
      unfold scCode at h
      by_cases h1 : CurveOk p zs
      · exact h1.2.1
      · rw [tell_false h1] at h; simp at h
    rw [cut_len]
    have := cutTo_le (zs.map (fun x => f * x % p)) (zs.map (fun x => f * x % p)).length
    have h8 : (zs.map (fun x => f * x % p)).length = zs.length := List.length_map _
    omega
  · simp
theorem own_made (w : World) : OwnI (w.alloc (.cells #[] 2)) w.heap.size (.slice (some ⟨w.heap.size, 0, none⟩) 0 0) [] := World.ownsRow_made w #[] 0 (Nat.le_refl _) (by unfold maxLen; omega) rfl

set_option maxRecDepth 100000 in
set_option maxHeartbeats 1000000 in
theorem specSc_any (p f : Int) (a : Option Addr) (zs : List Int) (c : Nat) (w : World) (h : Ints w a zs) (hl : zs.length ≤ 1048576) (hp0 : (Lit.int .i64 p).wf = true) :
    Calls Tryd.prog 27 #[.int .i64 p, .slice a zs.length c, .int .i64 f] w (GivesIntsCode w (scZs p zs f) (scCode p zs f)) := by
  have HI := Lib.hid h
  have HOM := Lib.hid (own_made w)
  have HBM := Lib.hid ((Below.refl w.heap.size w).alloc (Nat.le_refl _) (.cells #[] 2))
  clear h
  by_cases h1 : CurveOk p zs
  case neg =>
    have HT := Lib.hid (tell_false h1)
    have hc : scCode p zs f = 1 := by unfold scCode; rw [tell_false h1]; rfl
    have hz : scZs p zs f = [] := by unfold scZs; rw [if_neg (by rw [hc]; omega)]
    rw [hc, hz]
    clear h1 hc hz
    go_enter Tryd.func27, Tryd.ntmps27
    go_wp2_with fail
    refine (specVc_any p a zs c _ HI.out (by omega)).mono ?_
    rintro e w1 ⟨rfl, rfl⟩
    rw [HT.out]
    go_wp2_with fail
    refine bodyPost_ret (v := .tuple #[.slice (some ⟨w.heap.size, 0, none⟩) 0 0, .int .i64 1]) (by simp [results, Tryd.results27, go_sem]) rfl ?_
    exact GivesInts.code HOM.out (Nat.le_refl _) HBM.out 1
  have HT := Lib.hid (tell_true h1)
  have HP := Lib.hid h1
  have hp2 := h1.1.1
  have hp31 := h1.1.2.1
  by_cases h2 : Elem p f
  case neg =>
    have hc : scCode p zs f = 2 := by unfold scCode; rw [tell_true h1, tell_false h2]; rfl
    have hz : scZs p zs f = [] := by unfold scZs; rw [if_neg (by rw [hc]; omega)]
    rw [hc, hz]
    have t1 := Lib.hid (show (decide (0 ≤ f) && decide (f ≤ p - 1)) = false by unfold Elem at h2; by_cases q1 : 0 ≤ f <;> by_cases q2 : f ≤ p - 1 <;> simp [q1, q2] <;> omega)
    clear h1 hc hz h2
    go_enter Tryd.func27, Tryd.ntmps27
    go_wp2_with fail
    refine (specVc_any p a zs c _ HI.out (by omega)).mono ?_
    rintro e w1 ⟨rfl, rfl⟩
    rw [HT.out]
    go_wp2_with fail
    refine (l00In_val _ 0 _ false _ t1.out).mono ?_
    rintro e w1 ⟨rfl, rfl⟩
    go_wp2_with fail
    refine bodyPost_ret (v := .tuple #[.slice (some ⟨w.heap.size, 0, none⟩) 0 0, .int .i64 2]) (by simp [results, Tryd.results27, go_sem]) rfl ?_
    exact GivesInts.code HOM.out (Nat.le_refl _) HBM.out 2
  have hc : scCode p zs f = 0 := by unfold scCode; rw [tell_true h1, tell_true h2]; rfl
  have hz : scZs p zs f = cut (addTo p f [] zs zs.length) := by unfold scZs; rw [if_pos hc, addTo_nil]
  rw [hc, hz]
  have t1 := Lib.hid (show (decide (0 ≤ f) && decide (f ≤ p - 1)) = true by have := h2.1; have := h2.2; simp; omega)
  have HE := Lib.hid h2
  have HI1 := Lib.hid (HI.out.step ((Below.refl w.heap.size w).alloc (Nat.le_refl _) (.cells #[] 2)))
  clear h1 hc hz h2
  go_enter Tryd.func27, Tryd.ntmps27
  go_wp2_with fail
  refine (specVc_any p a zs c _ HI.out (by omega)).mono ?_
  rintro e w1 ⟨rfl, rfl⟩
  rw [HT.out]
  go_wp2_with fail
  refine (l00In_val _ 0 _ true _ t1.out).mono ?_
  rintro e w1 ⟨rfl, rfl⟩
  go_wp2_with fail
  refine (l05Sum_any p f (some ⟨w.heap.size, 0, none⟩) a [] zs 0 c _ (.inl rfl) HI1.out (by simp) (by have := HP.out.2.1; omega) hp2 hp31 HE.out (fun i hi => absurd hi (Nat.not_lt_zero _)) HP.out.2.2.1).mono ?_
  rintro e w2 hG
  obtain ⟨⟨v2, rfl, ho2⟩, hb2⟩ := hG
  have HO2 := Lib.hid (ho2.mono (show w.heap.size ≤ _ from HBM.out.size))
  have HB2 := Lib.hid (HBM.out.trans (hb2.mono HBM.out.size))
  clear ho2 hb2
  go_wp2_with fail
  refine bodyPost_ret (v := .tuple #[v2, .int .i64 0]) (by simp [results, Tryd.results27, go_sem]) rfl ?_
  exact GivesInts.code HO2.out (Nat.le_refl _) HB2.out 0
end Go.Proofs.YtgndekojodpmkaaDoor
