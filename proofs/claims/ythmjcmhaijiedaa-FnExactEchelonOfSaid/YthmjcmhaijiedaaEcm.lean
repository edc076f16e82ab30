/- EchelonOf and RankOf of the model. -/
import Derived.Test.YthmjcmhaijiedaaEm1
import Derived.Test.YthmjcmhaijiedaaVm
namespace Go.Proofs.Ythmjcmhaijiedaa
open Go.RowKit Go.Deep Go.Joins
set_option linter.unusedVariables false

set_option maxRecDepth 100000 in
set_option maxHeartbeats 4000000 in
theorem specEc_any (p c : Int) (a : Option Addr) (z : List (List Int)) (ca : Nat) (w : World) (hr : Rows2 w a z) (hl : Lens z) :
    Calls Try.prog 17 #[.agg #[.int .i64 p, .int .i64 c, .slice a z.length ca]] w (GivesMX w (ecSel p c z 0 p) (ecSel p c z 0 c) (ecSel p c z [] (echZ p c.toNat z)) (ecSel p c z 1 0)) := by
  have HR := Lib.hid hr
  have HL := Lib.hid hl
  clear hr hl
  go_enter Try.func17, Try.ntmps17
  go_wp2_with fail
  have hb2 := ((Below.refl w.heap.size w).alloc (Nat.le_refl _) (.cells #[.int .i64 p, .int .i64 c, .slice a z.length ca] 31)).alloc (by simp) (.cells #[.int .i64 0, .int .i64 0, .slice none 0 0] 31)
  have hx : Boxes ((w.alloc (.cells #[.int .i64 p, .int .i64 c, .slice a z.length ca] 31)).alloc (.cells #[.int .i64 0, .int .i64 0, .slice none 0 0] 31)) w.heap.size 31 #[.int .i64 p, .int .i64 c, .slice a z.length ca] := Boxes.step (World.alloc_heap_new w _) (al_b _ _)
  have hy : Boxes ((w.alloc (.cells #[.int .i64 p, .int .i64 c, .slice a z.length ca] 31)).alloc (.cells #[.int .i64 0, .int .i64 0, .slice none 0 0] 31)) (w.heap.size + 1) 31 #[.int .i64 0, .int .i64 0, .slice none 0 0] := by
    have : Boxes ((w.alloc (.cells #[.int .i64 p, .int .i64 c, .slice a z.length ca] 31)).alloc (.cells #[.int .i64 0, .int .i64 0, .slice none 0 0] 31)) (w.alloc (.cells #[.int .i64 p, .int .i64 c, .slice a z.length ca] 31)).heap.size 31 #[.int .i64 0, .int .i64 0, .slice none 0 0] := World.alloc_heap_new _ _
    simp only [World.size_alloc] at this
    exact this
  have hs2 : ((w.alloc (.cells #[.int .i64 p, .int .i64 c, .slice a z.length ca] 31)).alloc (.cells #[.int .i64 0, .int .i64 0, .slice none 0 0] 31)).heap.size = w.heap.size + 2 := by simp
  have hr2 := HR.out.below hb2 (Nat.le_refl _)
  refine (l03Ok_any w.heap.size p c a z ca _ hx hr2 HL.out).mono ?_
  generalize (w.alloc (.cells #[.int .i64 p, .int .i64 c, .slice a z.length ca] 31)).alloc (.cells #[.int .i64 0, .int .i64 0, .slice none 0 0] 31) = w2 at *
  rintro e w3 ⟨rfl, hq⟩
  have hb3 := quiet_below hq
  have HXM := Lib.hid (hx.step hb3)
  have HXR := Lib.hid (hy.step hb3)
  have HB := Lib.hid (hb2.trans (hb3.mono (by omega)))
  have hsz3 : w.heap.size + 2 ≤ w3.heap.size := by have := hb3.size; omega
  clear hb2 hx hy hs2 hb3 hq hr2
  have e0 := HXR.out.m0
  have e1 := HXR.out.m1
  have e2 := HXR.out.m2
  have f0 := HXR.out.frozen 0
  have f1 := HXR.out.frozen 1
  have f2 := HXR.out.frozen 2
  have hlt := HXR.out.lt
  by_cases hm : MatOk p c z
  case neg =>
    have HT := Lib.hid (tell_false hm)
    have HV := Lib.hid (fun (α : Type) (b o : α) => ec_bad hm b o)
    clear hm
    rw [HT.out]
    go_wp2_with fail
    refine bodyPost_ret (v := .tuple #[.agg #[.int .i64 0, .int .i64 0, .slice none 0 0], .int .i64 1]) (by simp [results, Try.results17, go_sem, e0, e1, e2]) rfl ⟨⟨none, 0, by rw [HV.out, HV.out, HV.out, HV.out]; rfl, by rw [HV.out]; exact .inl rfl⟩, (((HB.out.setCell (p := ⟨w.heap.size + 1, 0, none⟩) (by show w.heap.size ≤ w.heap.size + 1; omega) _).setCell (p := ⟨w.heap.size + 1, 1, none⟩) (by show w.heap.size ≤ w.heap.size + 1; omega) _).setCell (p := ⟨w.heap.size + 1, 2, none⟩) (by show w.heap.size ≤ w.heap.size + 1; omega) _)⟩
  have HT := Lib.hid (tell_true hm)
  have HG := Lib.hid (GoodM.of hm)
  have HV := Lib.hid (fun (α : Type) (b o : α) => ec_ok hm b o)
  obtain ⟨n, rfl⟩ : ∃ n : Nat, c = (n : Int) := ⟨c.toNat, by have := hm.2.1.1; omega⟩
  clear hm
  rw [HT.out]
  simp only [Int.toNat_natCast] at HG
  go_wp2_with fail
  refine (l03Echelon_any w.heap.size n ca p a z w3 HXM.out (HR.out.below HB.out (Nat.le_refl _)) HG.out).mono ?_
  rintro e w4 ⟨⟨va, vc, fa, fc, us, f, rfl, hom, -, hle, htab⟩, hb4⟩
  have HTB := Lib.hid htab
  have HOM := Lib.hid (hom.step (al_b w4 (.cells #[.int .i64 p, .int .i64 ((n : Nat) : Int), .slice va (echF p n z).length vc] 31)))
  have hs4 : w3.heap.size ≤ w4.heap.size := hb4.size
  replace HXR := Lib.hid ((HXR.out.step hb4).step (al_b w4 (.cells #[.int .i64 p, .int .i64 ((n : Nat) : Int), .slice va (echF p n z).length vc] 31)))
  replace HB := Lib.hid ((HB.out.trans (hb4.mono (by omega))).trans ((al_b w4 (.cells #[.int .i64 p, .int .i64 ((n : Nat) : Int), .slice va (echF p n z).length vc] 31)).mono (by omega)))
  clear hom htab hb4 e0 e1 e2 f0 f1 f2 hlt HXM
  go_upto_region 4 with fail
  have hx5 : Boxes (w4.alloc (.cells #[.int .i64 p, .int .i64 ((n : Nat) : Int), .slice va (echF p n z).length vc] 31)) w4.heap.size 31 #[.int .i64 p, .int .i64 ((n : Nat) : Int), .slice va (echF p n z).length vc] := World.alloc_heap_new w4 _
  have x0 := hx5.m0
  have x1 := hx5.m1
  have x2 := hx5.m2
  have xl := hx5.lt
  clear hx5
  generalize w4.alloc (.cells #[.int .i64 p, .int .i64 ((n : Nat) : Int), .slice va (echF p n z).length vc] 31) = w5 at *
  have e0 := HXR.out.m0
  have e1 := HXR.out.m1
  have e2 := HXR.out.m2
  have f0 := HXR.out.frozen 0
  have f1 := HXR.out.frozen 1
  have f2 := HXR.out.frozen 2
  have hlt := HXR.out.lt
  go_wp2_with fail
  refine bodyPost_ret (v := .tuple #[.agg #[.int .i64 p, .int .i64 ((n : Nat) : Int), .slice va (echF p n z).length vc], .int .i64 0]) (by simp [results, Try.results17, go_sem, e0, e1, e2]) rfl ⟨⟨va, vc, by rw [HV.out, HV.out, HV.out, HV.out, Int.toNat_natCast, ← HTB.out, tab_len], ?_⟩, ?_⟩
  · rw [HV.out, Int.toNat_natCast, ← HTB.out]
    exact (HOM.out.keepT (KeepT.set3 HXR.out (by decide) _ _ _) (KeepT.set3 HXR.out (by decide) _ _ _)).take hle
  · exact (((HB.out.setCell (p := ⟨w.heap.size + 1, 0, none⟩) (by show w.heap.size ≤ w.heap.size + 1; omega) _).setCell (p := ⟨w.heap.size + 1, 1, none⟩) (by show w.heap.size ≤ w.heap.size + 1; omega) _).setCell (p := ⟨w.heap.size + 1, 2, none⟩) (by show w.heap.size ≤ w.heap.size + 1; omega) _)

set_option maxRecDepth 100000 in
set_option maxHeartbeats 2000000 in
theorem l03Rank_any (q0 n ca : Nat) (p : Int) (a : Option Addr) (z : List (List Int)) (w : World) (hbx : Boxes w q0 31 #[.int .i64 p, .int .i64 ((n : Nat) : Int), .slice a z.length ca]) (hr : Rows2 w a z) (hg : GoodM p n z) :
    Calls Try.prog 49 #[.pointer (some ⟨q0, 0, none⟩)] w fun e w' => e = .returned (.int .i64 ((echF p n z).length : Nat)) ∧ Below w.heap.size w w' := by
  have HG := Lib.hid hg
  go_enter Try.func49, Try.ntmps49
  go_wp2_with fail
  refine (l03Echelon_any q0 n ca p a z w hbx hr HG.out).mono ?_
  clear hbx hr hg
  rintro e w4 ⟨⟨va, vc, fa, fc, us, f, rfl, -, -, -, -⟩, hb4⟩
  go_wp2_with fail
  go_ret
  exact ⟨rfl, hb4.trans ((al_b w4 _).mono hb4.size)⟩

set_option maxRecDepth 100000 in
set_option maxHeartbeats 2000000 in
theorem specRo2_any (p c : Int) (a : Option Addr) (z : List (List Int)) (ca : Nat) (w : World) (hr : Rows2 w a z) (hl : Lens z) :
    Calls Try.prog 23 #[.agg #[.int .i64 p, .int .i64 c, .slice a z.length ca]] w fun e w' => e = .returned (.tuple #[.int .i64 (ecSel p c z 0 ((echF p c.toNat z).length : Int)), .int .i64 (ecSel p c z 1 0)]) ∧ Below w.heap.size w w' := by
  have hb1 := al_b w (.cells #[.int .i64 p, .int .i64 c, .slice a z.length ca] 31)
  have hx : Boxes (w.alloc (.cells #[.int .i64 p, .int .i64 c, .slice a z.length ca] 31)) w.heap.size 31 #[.int .i64 p, .int .i64 c, .slice a z.length ca] := World.alloc_heap_new w _
  have HR := Lib.hid (hr.step hb1)
  have HL := Lib.hid hl
  have HB1 := Lib.hid hb1
  clear hr hl hb1
  go_enter Try.func23, Try.ntmps23
  go_wp2_with fail
  refine (l03Ok_any w.heap.size p c a z ca _ hx HR.out HL.out).mono ?_
  generalize w.alloc (.cells #[.int .i64 p, .int .i64 c, .slice a z.length ca] 31) = w2 at *
  rintro e w3 ⟨rfl, hq⟩
  have hb3 := quiet_below hq
  have HXM := Lib.hid (hx.step hb3)
  have HR3 := Lib.hid (HR.out.step hb3)
  have HB := Lib.hid (HB1.out.trans (hb3.mono HB1.out.size))
  clear hx hb3 hq HR HB1
  by_cases hm : MatOk p c z
  case neg =>
    have HT := Lib.hid (tell_false hm)
    have HV := Lib.hid (fun (α : Type) (b o : α) => ec_bad hm b o)
    clear hm
    rw [HT.out]
    go_wp2_with fail
    refine bodyPost_ret (v := .tuple #[.int .i64 0, .int .i64 1]) (by simp [results, Try.results23, go_sem]) rfl ?_
    exact ⟨by rw [HV.out, HV.out], HB.out⟩
  have HT := Lib.hid (tell_true hm)
  have HG := Lib.hid (GoodM.of hm)
  have HV := Lib.hid (fun (α : Type) (b o : α) => ec_ok hm b o)
  obtain ⟨n, rfl⟩ : ∃ n : Nat, c = (n : Int) := ⟨c.toNat, by have := hm.2.1.1; omega⟩
  clear hm
  rw [HT.out]
  simp only [Int.toNat_natCast] at HG
  go_wp2_with fail
  refine (l03Rank_any w.heap.size n ca p a z w3 HXM.out HR3.out HG.out).mono ?_
  rintro e w4 ⟨rfl, hb4⟩
  have HB4 := Lib.hid (HB.out.trans (hb4.mono HB.out.size))
  clear hb4
  go_wp2_with fail
  refine bodyPost_ret (v := .tuple #[.int .i64 ((echF p n z).length : Nat), .int .i64 0]) (by simp [results, Try.results23, go_sem]) rfl ?_
  exact ⟨by rw [HV.out, HV.out, Int.toNat_natCast], HB4.out⟩
end Go.Proofs.Ythmjcmhaijiedaa
