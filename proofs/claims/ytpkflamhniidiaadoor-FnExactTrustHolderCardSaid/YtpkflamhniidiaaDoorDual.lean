/- DualFamily, the model's and the program's. -/
import Derived.Test.YtpkflamhniidiaaDoorTbl
import Derived.Test.YtpkflamhniidiaaDoorTof
import Derived.Test.YtpkflamhniidiaaDoorFw
namespace Go.Proofs.YtpkflamhniidiaaDoor
open Go.RowKit Go.Deep Go.Shelf
set_option linter.unusedVariables false

/-- All others of so many. -/
def offIn (m x : Nat) : Nat := (2 ^ m - 1) &&& (127 - x)
theorem off_fact : ∀ m : Nat, m ≤ 7 → ∀ x : Nat, x < 128 → bits BinOp.andNot IntKind.u64 ((2 ^ m - 1 : Nat) : Int) (x : Int) = (offIn m x : Nat) := by decide +kernel
theorem off_sub : ∀ m : Nat, m ≤ 7 → ∀ x : Nat, x < 128 → x < 2 ^ m → offIn m x = 2 ^ m - 1 - x := by decide +kernel
theorem off_lt {m : Nat} (x : Nat) (hm : m ≤ 7) : offIn m x < 128 := by
  have : (2 : Nat) ^ m ≤ 2 ^ 7 := Nat.pow_le_pow_right (by decide) hm
  have h1 : (2 : Nat) ^ m - 1 < 128 := by omega
  exact Nat.lt_of_le_of_lt Nat.and_le_left h1
theorem mask_all : ∀ n : Nat, n ≤ 7 → IntKind.u64.wrap (IntKind.u64.wrap ((2 : Int) ^ n) - 1) = ((2 ^ n - 1 : Nat) : Int) := by decide +kernel
set_option maxRecDepth 100000 in
theorem allH_any (h M : Nat) (w : World) (h2 : h ≤ 7) (hM : 2 ^ h - 1 = M) : Calls Tryd.prog 107 #[.int .i64 (h : Nat)] w fun e w' => e = .returned (.int .u64 (M : Int)) ∧ w = w' := by
  have hm := Lib.hid (mask_all h h2)
  have HM := Lib.hid hM
  clear hM
  go_enter Tryd.func107, Tryd.ntmps107
  go_wp2
  go_ret
  refine ⟨?_, rfl⟩
  rw [← HM.out, ← hm.out]
  rfl

set_option maxRecDepth 100000 in
theorem opensDual_any (T h x : Nat) (q : Nat → Bool) (w : World) (hx : x < 128) (h7 : h ≤ 7) (ht : TableAt w T h q) : Calls Tryd.prog 87 #[.pointer (some ⟨T, 0, none⟩), .int .u64 x] w fun e w' => e = .returned (.bool (!q (offIn h x))) ∧ Below w.heap.size w w' := by
  have h0 := ht.h0
  have hy := off_lt x h7
  have hc := ht.cell (offIn h x) hy
  obtain ⟨M, hM⟩ : ∃ M, 2 ^ h - 1 = M := ⟨_, rfl⟩
  have hof := off_fact h h7 x hx
  rw [hM] at hof
  have HM := Lib.hid hM
  clear ht hM
  generalize offIn h x = y at *
  have hyi : ((y : Nat) : Int) < 128 := by omega
  go_enter Tryd.func87, Tryd.ntmps87
  go_wp2
  go_quiet ((go_at_call 107; exact Calls.quiet_of_same (swapped (allH_any h M _ h7 HM.out))))
  go_wp2
  go_ret
  exact ⟨rfl, quiet_below ⟨_, rfl⟩⟩

theorem dual_chooses (T h : Nat) (q : Nat → Bool) (w : World) (h7 : h ≤ 7) (ht : TableAt w T h q) : Chooses w 87 #[.pointer (some ⟨T, 0, none⟩)] #[] (fun x => !q (offIn h x)) := by
  refine ⟨enters_of Tryd.func87 (by kernel_rfl) rfl, fun x W hb => ?_⟩
  show Calls Tryd.prog 87 #[.pointer (some ⟨T, 0, none⟩), .int .u64 (x.val : Int)] W _
  have hT : TableAt W T h q := ht.below hb (World.block_lt_of_cell? _ _ ht.h0)
  exact opensDual_any T h x.val q W x.isLt h7 hT

/-- The groups that the dual opens. -/
def dualB (m : Nat) (zss : List (List Int)) (x : Nat) : Bool := !tblAt zss zss.length (2 ^ m - 1 - x)
noncomputable def dualOf (h : Int) (zss : List (List Int)) : FR := if tell (FamOk h zss) = true then ⟨h, famOf h.toNat (dualB h.toNat zss), 0⟩ else noFam 1
theorem dualOf_yes {m : Nat} {zss : List (List Int)} (k : FamOk (m : Int) zss) : dualOf (m : Int) zss = ⟨(m : Nat), famOf m (dualB m zss), 0⟩ := by rw [dualOf, if_pos (tell_true k), Int.toNat_natCast]
theorem dualOf_no {h : Int} {zss : List (List Int)} (k : ¬ FamOk h zss) : dualOf h zss = noFam 1 := by rw [dualOf, if_neg (by rw [tell_false k]; simp)]

set_option maxHeartbeats 1000000 in
set_option maxRecDepth 100000 in
theorem l01Dual_any (h fb : Nat) (a : Option Addr) (zss : List (List Int)) (c : Nat) (w : World) (h1 : 1 ≤ h) (h7 : h ≤ 7) (hbox : FamBox w fb (h : Nat) a zss.length c) (hr : Rows2 w a zss) (hl : Lens zss)
    (hg : ∀ i, i < zss.length → IsGrp (h : Nat) (nthL zss i)) :
    Calls Tryd.prog 85 #[.pointer (some ⟨fb, 0, none⟩)] w (GivesFamR w (h : Nat) (famOf h (dualB h zss))) := by
  obtain ⟨n, hn⟩ : ∃ n, n = 2 ^ h := ⟨_, rfl⟩
  have hn128 : n ≤ 128 := by rw [hn]; exact Nat.pow_le_pow_right (by decide) h7
  have hn1 : 1 ≤ n := by rw [hn]; exact Nat.one_le_two_pow
  have HN := Lib.hid hn
  have HG := Lib.hid hg
  have HL := Lib.hid hl
  have hfb := World.block_lt_of_cell? _ _ hbox.1
  have hB0 := (Below.refl w.heap.size w).alloc (Nat.le_refl _) (.cells #[.int .i64 0, .slice none 0 0] 27)
  have hF0 : Boxes1 (w.alloc (.cells #[.int .i64 0, .slice none 0 0] 27)) w.heap.size := World.alloc_heap_new w _
  have HX := Lib.hid (hbox.below hB0 (Nat.le_refl _))
  have HA := Lib.hid (hr.step hB0)
  have HB := Lib.hid hB0
  have HF := Lib.hid hF0
  obtain ⟨i0, hi, hz0, hz1, hz2⟩ := info_parts Tryd.infoBool
  clear hn hg hl hbox hr hB0 hF0
  go_enter Tryd.func85, Tryd.ntmps85
  go_wp2_with fail
  generalize w.alloc (.cells #[.int .i64 0, .slice none 0 0] 27) = w1 at *
  refine (l01Table_any h n fb a zss c w1 h1 h7 HN.out HX.out HA.out HL.out HG.out).mono ?_
  rintro e w2 ⟨rfl, hbo, hb2⟩
  have hlt2 := HF.out.lt
  have HF2 := Lib.hid (HF.out.step hb2)
  have HX2 := Lib.hid (HX.out.below hb2 (Nat.le_refl _))
  have HB2 := Lib.hid (chain HB.out hb2)
  have HBO := Lib.hid hbo
  have hs2 := hb2.size
  clear hbo hb2
  go_wp2_with fail
  have hR0 : (w2.alloc (.cells #[] 4)).ownsRow w2.heap.size 4 1 (.slice (some ⟨w2.heap.size, 0, none⟩) 0 0) 0 [] := by
    have := World.ownsRow_made w2 #[] 0 (e := 4) (size := 1) (Nat.le_refl _) (by unfold maxLen; omega) rfl
    simpa using this
  have hB3 := (Below.refl w2.heap.size w2).alloc (Nat.le_refl _) (.cells #[] 4)
  generalize w2.alloc (.cells #[] 4) = w3 at *
  generalize hg2 : w1.heap.size = tb at *
  have HTB := Lib.hid hg2
  clear hg2
  go_loopw [4, 5] (fun v i wr => ∃ (k g cap : Nat), k ≤ n ∧ i = .int .i64 k ∧ v = .slice (some ⟨g, 0, none⟩) k cap ∧ wr.ownsRow w2.heap.size 4 1 (.slice (some ⟨g, 0, none⟩) k cap) k (bools (dualB h zss) k) ∧ Below w2.heap.size w2 wr)
    (fun _ i _ => n - (intOf i).toNat)
  case atStart => exact ⟨0, _, _, by omega, rfl, rfl, hR0, hB3⟩
  case round =>
    obtain ⟨k, g, cap, hk, rfl, rfl, hrow, hbel⟩ := hrel
    clear hR0 hB3
    have HR := Lib.hid hrow
    have HW := Lib.hid hbel
    have hszr := hbel.size
    by_cases hlt : k < n
    · have hki : (k : Int) < (n : Int) := by omega
      obtain ⟨bb, oo, he, hc⟩ := HBO.out.step hbel
      cases he
      have hcell : wr.cell? ⟨tb, n - 1 - k, none⟩ = some (.bool (tblAt zss zss.length (n - 1 - k))) := by simpa using hc (n - 1 - k) (by omega)
      have HV := Lib.hid (show (!tblAt zss zss.length (n - 1 - k)) = dualB h zss k by rw [dualB, HN.out])
      clear hc hrow hbel
      generalize tblAt zss zss.length (n - 1 - k) = p at *
      go_wp2_with (at_builtin; refine wpList_append_own _ rfl _ _ 85 rfl w2.heap.size 4 i0 (.bool false) 1 1 Tryd.underlying85 hi hz0 hz1 hz2 rfl (by decide) _ _ _ rfl (World.ownsRow.alloc HR.out _) ⟨wr.heap.size, 0, none⟩ 1 1 [.bool (!p)] rfl rfl (cell_one_new _ _ _) (by simp [Value.oneCell']) (by unfold maxLen; omega) (by omega) (by simp; omega) ?_; intro v' w1 hown2 hgrow2 _; obtain ⟨g', cap', rfl⟩ := ownsRow_succ hown2; have HO2 := Lib.hid hown2; have HG2 := Lib.hid hgrow2; clear hown2 hgrow2)
      go_roundw
      case rel =>
        refine ⟨k + 1, g', cap', by omega, by go_num, rfl, ?_, ?_⟩
        · rw [bools_succ, ← HV.out]; exact HO2.out
        · exact (HW.out.alloc hszr _).grown HG2.out (by simp; omega) (fun q hq => by have := (HR.out.lt q hq).1; omega)
      case measure => simp [intOf]; omega
    · have HK := Lib.hid (show k = n by omega)
      have ht : Bools wr (some ⟨g, 0, none⟩) k (dualB h zss) := Bools.of_row HR.out
      rw [HK.out] at ht
      have HT := Lib.hid ht
      have HF3 := Lib.hid (HF2.out.step hbel)
      have HB3 := Lib.hid (chain HB2.out hbel)
      have p0 := (hbel.cell (p := ⟨fb, 0, none⟩) (World.block_lt_of_cell? _ _ HX2.out.1)).trans HX2.out.1
      clear ht hrow hbel
      go_wp2_with fail
      rw [HK.out]
      refine (l01From_any h n cap _ (dualB h zss) wr h1 h7 HN.out HT.out).mono ?_
      rintro e w' ⟨⟨a2, c2, rfl, hrows, hlens⟩, hb⟩
      have hszw := HF3.out.lt
      have hf' := HF3.out.step hb
      have c0 := hf'.c0
      have c1 := hf'.c1
      have f0 := hf'.f 0
      have f1 := hf'.f 1
      have HRR := Lib.hid hrows
      have HLL := Lib.hid hlens
      have HB4 := Lib.hid (chain HB3.out hb)
      clear hrows hlens hb hf'
      go_wp2_with fail
      refine bodyPost_ret (v := .agg #[.int .i64 (h : Nat), .slice a2 (famOf h (dualB h zss)).length c2]) (by simp [results, Tryd.results85, go_sem, c0, c1]) rfl ⟨⟨a2, c2, rfl, ?_, HLL.out⟩, ?_⟩
      · exact ((HRR.out.set hszw 0 _).set hszw 1 _).mono (Nat.le_of_lt hszw)
      · exact (HB4.out.setCell (by simp) _).setCell (by simp) _
end Go.Proofs.YtpkflamhniidiaaDoor
