/- OpeningGroups, the model's and the program's. -/
import Derived.Test.YteifllengcacbaaDoorTbl
import Derived.Test.YteifllengcacbaaDoorTof
import Derived.Test.YteifllengcacbaaDoorNeed
import Derived.Test.YteifllengcacbaaDoorLawR
namespace Go.Proofs.YteifllengcacbaaDoor
open Go.RowKit Go.Deep Go.Shelf
set_option linter.unusedVariables false

noncomputable def ogOf (h : Int) (zss : List (List Int)) : List (List Int) := if tell (FamOk h zss) = true then pickOf (tblAt zss zss.length) (lexAll h.toNat) else []
theorem og_small (h : Int) (zss : List (List Int)) : Small2 (ogOf h zss) := by
  unfold ogOf
  split
  · rename_i k
    have := (of_tell k).1
    exact famOf_small (by omega) _
  · exact lens_small (by simp) (by simp)
theorem Og_same {m : Nat} (zss : List (List Int)) (h7 : m ≤ 7) : pickOf (tblAt zss zss.length) (lexAll m) = pickOf (tabOf (m : Int) zss) (lexAll m) :=
  pickOf_congr fun y hy => by unfold tabOf; rw [Int.toNat_natCast]; exact (seenBy_all h7 _ ((mem_lex h7 y).1 hy)).symm
theorem opensO_chooses (T h : Nat) (q : Nat → Bool) (w : World) (ht : TableAt w T h q) : Chooses w 47 #[.pointer (some ⟨T, 0, none⟩)] #[] q := by
  refine ⟨enters_of Tryd.func47 (by kernel_rfl) rfl, fun x W hb => ?_⟩
  show Calls Tryd.prog 47 #[.pointer (some ⟨T, 0, none⟩), .int .u64 (x.val : Int)] W _
  have hT : TableAt W T h q := ht.below hb (World.block_lt_of_cell? _ _ ht.h0)
  refine (opens_any T h x.val q W x.isLt hT).mono ?_
  rintro e w' ⟨rfl, rfl⟩
  exact ⟨rfl, Below.refl _ _⟩

set_option maxHeartbeats 1000000 in
set_option maxRecDepth 100000 in
theorem implOg_any (h : Int) (a : Option Addr) (zss : List (List Int)) (c : Nat) (w : World) (hr : Rows2 w a zss) (hl : Small2 zss) :
    Calls Tryd.prog 16 #[.agg #[.int .i64 h, .slice a zss.length c]] w (GivesRY w (ogOf h zss) (okCode h zss)) := by
  have hb1 := (Below.refl w.heap.size w).alloc (Nat.le_refl _) (.cells #[.int .i64 h, .slice a zss.length c] 26)
  have c0 : (w.alloc (.cells #[.int .i64 h, .slice a zss.length c] 26)).cell? ⟨w.heap.size, 0, none⟩ = some (.int .i64 h) := by simp
  have hlt0 : w.heap.size < (w.alloc (.cells #[.int .i64 h, .slice a zss.length c] 26)).heap.size := by simp
  have HR := Lib.hid (hr.step hb1)
  have HL := Lib.hid hl
  have HB := Lib.hid hb1
  clear hr hl hb1
  cases hf : tell (FamOk h zss) with
  | false =>
    have HFO := Lib.hid (of_tell_false hf)
    have HF := Lib.hid hf
    clear hf
    go_enter Tryd.func16, Tryd.ntmps16
    go_wp2_with fail
    refine (tableOf_any h a zss c _ HR.out HL.out).mono ?_
    generalize w.alloc (.cells #[.int .i64 h, .slice a zss.length c] 26) = w1 at *
    rintro e w2 ⟨-, hn, hb⟩
    obtain rfl := hn HFO.out
    have HB2 := Lib.hid (chain HB.out hb)
    clear hn hb
    go_wp2_with fail
    go_ret2
    rw [show okCode h zss = 1 by rw [okCode, HF.out]; rfl, show ogOf h zss = [] by rw [ogOf, HF.out]; rfl]
    exact ⟨⟨_, [], rfl, ⟨World.ownsRow_nil _ _ _ _, RowsOwn.nil _ _⟩⟩, HB2.out⟩
  | true =>
    have HFO := Lib.hid (of_tell hf)
    have HF := Lib.hid hf
    have hh1 : 1 ≤ h := HFO.out.1.1
    have hh7 : h ≤ 7 := HFO.out.1.2
    clear hf
    obtain ⟨m, rfl⟩ : ∃ m : Nat, h = (m : Int) := ⟨h.toNat, by omega⟩
    have m1 : 1 ≤ m := by omega
    have m7 : m ≤ 7 := by omega
    have HV := Lib.hid (show ogOf (m : Int) zss = pickOf ((tabOf (m : Int) zss)) (lexAll m) by rw [ogOf, HF.out, Int.toNat_natCast]; exact Og_same zss m7)
    have HC0 := Lib.hid (show okCode (m : Int) zss = 0 by rw [okCode, HF.out]; rfl)
    go_enter Tryd.func16, Tryd.ntmps16
    go_wp2_with fail
    refine (tableOf_any (m : Int) a zss c _ HR.out HL.out).mono ?_
    generalize w.alloc (.cells #[.int .i64 (m : Int), .slice a zss.length c] 26) = w1 at *
    rintro e w2 ⟨hy, -, hb⟩
    obtain ⟨T, rfl, hT, htab⟩ := hy HFO.out
    rw [Int.toNat_natCast] at htab
    have HTA := Lib.hid htab
    have d0 := (hb.cell (p := ⟨w.heap.size, 0, none⟩) hlt0).trans c0
    have HB2 := Lib.hid (chain HB.out hb)
    clear htab hy hb c0
    generalize tabOf (m : Int) zss = q at *
    go_wp2_with fail
    refine (groupsBy_any m _ #[.pointer (some ⟨T, 0, none⟩)] #[] (q) w2 m1 m7 (fun W hb => opensO_chooses T m q W (HTA.out.below hb (World.block_lt_of_cell? _ _ HTA.out.h0)))).mono ?_
    rintro e w3 ⟨⟨v, us, rfl, hrow, hrows⟩, hb⟩
    have HRW := Lib.hid hrow
    have HRS := Lib.hid hrows
    have HB3 := Lib.hid (chain HB2.out hb)
    clear hrow hrows hb d0
    go_wp2_with fail
    go_ret2
    rw [HV.out, HC0.out]
    exact ⟨⟨_, us, rfl, (Own.lower ⟨HRW.out, HRS.out⟩ HB2.out.size)⟩, HB3.out⟩
end Go.Proofs.YteifllengcacbaaDoor
