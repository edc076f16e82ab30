/- The program's SwingsOf. -/
import Derived.Test.YteifllengcacbaaDoorSwg
namespace Go.Proofs.YteifllengcacbaaDoor
open Go.RowKit Go.Deep Go.Shelf
set_option linter.unusedVariables false
attribute [local go_sem] Oper.semAt_some

structure InvS (w : World) (T m b N : Nat) (q : Nat → Bool) (f : Nat → Nat) (W : World) : Prop where
  c : InvC w T m b N q f W
  p1 : W.cell? ⟨w.heap.size, 0, none⟩ = some (.int .i64 (m : Nat))
theorem InvS.own {w : World} {T m b N : Nat} {q : Nat → Bool} {f : List G7 → Nat → Nat} {B : Nat} (hB : w.heap.size ≤ B) : OwnFrom B (fun pre W => InvS w T m b N q (f pre) W) := by
  intro pre W W' row hs hg hr
  exact ⟨InvC.own (f := f) hB pre W W' row hs.c hg hr, cell_kept hs.p1 hg (fun r e => (hr r e).2)⟩
theorem InvS.step {w W W' : World} {T m b N : Nat} {q : Nat → Bool} {f : Nat → Nat} (hs : InvS w T m b N q f W) (hb : Below W.heap.size W W') : InvS w T m b N q f W' := ⟨hs.c.step hb, cell_step hb hs.p1⟩
theorem InvS.mark {w W : World} {T m b N s : Nat} {q : Nat → Bool} {f : Nat → Nat} (hs : InvS w T m b N q f W) (hT : w.heap.size < b ∧ T < b) (hsN : s < N) (v : Nat) :
    InvS w T m b N q (fun i => if i = s then v else f i) (W.setCell ⟨b + 1, s, none⟩ (.int .i64 ((v : Nat) : Int))) :=
  ⟨hs.c.mark ⟨Nat.le_of_lt hT.1, hT.2⟩ hsN v, by rw [World.cell?_setCell_other _ _ _ _ (by simp <;> omega)]; exact hs.p1⟩
theorem InvS.alike {w W : World} {T m b N : Nat} {q : Nat → Bool} {f f' : Nat → Nat} (hs : InvS w T m b N q f W) (e : ∀ i, i < N → f i = f' i) : InvS w T m b N q f' W :=
  ⟨⟨hs.c.bel, hs.c.sz, hs.c.p4, hs.c.p5, hs.c.tab, hs.c.row.congr fun i hi => by rw [e i hi]⟩, hs.p1⟩

set_option maxHeartbeats 8000000 in
set_option maxRecDepth 100000 in
theorem implSwg_any (h : Int) (a : Option Addr) (zss : List (List Int)) (c : Nat) (w : World) (hr : Rows2 w a zss) (hl : Small2 zss) :
    Calls Tryd.prog 34 #[.agg #[.int .i64 h, .slice a zss.length c]] w (GivesIntsCode w (swOf h zss) (okCode h zss)) := by
  have hb1 := (Below.refl w.heap.size w).alloc (Nat.le_refl _) (.cells #[.int .i64 h, .slice a zss.length c] 26)
  have c0 : (w.alloc (.cells #[.int .i64 h, .slice a zss.length c] 26)).cell? ⟨w.heap.size, 0, none⟩ = some (.int .i64 h) := by simp
  have hlt0 : w.heap.size < (w.alloc (.cells #[.int .i64 h, .slice a zss.length c] 26)).heap.size := by simp
  have HR := Lib.hid (hr.step hb1)
  have HL := Lib.hid hl
  have HB := Lib.hid hb1
  have HC0 := Lib.hid c0
  clear hr hl hb1 c0
  cases hf : tell (FamOk h zss) with
  | false =>
    have HFO := Lib.hid (of_tell_false hf)
    have HF := Lib.hid hf
    clear hf
    go_enter Tryd.func34, Tryd.ntmps34
    go_wp2_with fail
    refine (tableOf_any h a zss c _ HR.out HL.out).mono ?_
    generalize w.alloc (.cells #[.int .i64 h, .slice a zss.length c] 26) = w1 at *
    rintro e w2 ⟨-, hn, hb⟩
    obtain rfl := hn HFO.out
    have HB2 := Lib.hid (chain HB.out hb)
    have hs2 := HB2.out.size
    clear hn hb
    go_wp2_with fail
    go_ret2
    exact ⟨⟨_, by rw [okCode, HF.out]; rfl, by rw [swOf, HF.out]; exact OwnI.nil _ _⟩, HB2.out.alloc hs2 _⟩
  | true =>
    have HFO := Lib.hid (of_tell hf)
    have HF := Lib.hid hf
    have hh1 : 1 ≤ h := HFO.out.1.1
    have hh7 : h ≤ 7 := HFO.out.1.2
    clear hf
    obtain ⟨m, rfl⟩ : ∃ m : Nat, h = (m : Int) := ⟨h.toNat, by omega⟩
    have m1 : 1 ≤ m := by omega
    have m7 : m ≤ 7 := by omega
    have hmk := run_make_row' (P := Tryd.prog) 28 2 (.int .i64 0) 8 Tryd.underlying28 Tryd.infoInt64 rfl .i64 .i64 m (by omega) (by omega)
    have HV := Lib.hid (show swOf (m : Int) zss = swList (tblAt zss zss.length) m by rw [swOf, HF.out, Int.toNat_natCast]; rfl)
    have HCO := Lib.hid (show okCode (m : Int) zss = 0 by rw [okCode, HF.out]; rfl)
    have HQ := Lib.hid (show ∀ y, y < 2 ^ m → tabOf (m : Int) zss y = tblAt zss zss.length y from fun y hy => by unfold tabOf; rw [Int.toNat_natCast]; exact seenBy_all m7 _ hy)
    refine (callsIn_wide (n := 9)).1 ?_
    have hdd : ∀ k : Nat, (Fence.wide.depth.isSome = true → 1 ≤ k) := fun k h => by cases h
    refine callsIn_of_wp_marks Tryd.func34 rfl trivial ?_ rfl
    simp only [Tryd.ntmps34, List.size_toArray, List.length_cons, List.length_nil, Nat.reduceAdd, Nat.reduceSub, Array.replicate_succ, Array.replicate_zero, List.push_toArray, List.append_toArray, List.nil_append, List.cons_append]
    gi_wp2_with (first
      | (refine ⟨trivial, ?_⟩; gi_at_call 45; refine (callsIn_wide.2 (tableOf_any (m : Int) a zss c _ HR.out HL.out)).mono ?_; rintro e w2 ⟨hy, -, hb⟩; obtain ⟨T, rfl, hT, htab⟩ := hy HFO.out; have d0 := (hb.cell (p := ⟨w.heap.size, 0, none⟩) hlt0).trans HC0.out; have HB2 := Lib.hid (chain HB.out hb); have HTA := Lib.hid htab; have hlw := HB2.out.size; have hlw2 : w.heap.size < w2.heap.size := Nat.lt_of_lt_of_le hlt0 hb.size; have hlw3 : ¬ (w.heap.size = w2.heap.size) := Nat.ne_of_lt hlw2; have hlw4 : ¬ (w.heap.size = w2.heap.size + 1) := Nat.ne_of_lt (Nat.lt_succ_of_lt hlw2); have hlw5 : ¬ (w.heap.size = w2.heap.size + 1 + 1) := Nat.ne_of_lt (Nat.lt_succ_of_lt (Nat.lt_succ_of_lt hlw2)); have hlw6 : w.heap.size < w2.heap.size + 1 := Nat.lt_succ_of_lt hlw2; have hlw7 : w.heap.size < w2.heap.size + 1 + 1 := Nat.lt_succ_of_lt (Nat.lt_succ_of_lt hlw2); clear hy hb htab)
      | (refine ⟨trivial, ?_⟩; gi_at_call 69; refine (callsIn_wide.2 (groupsOf_any _ _)).mono ?_; rintro e w' ⟨rfl, rfl⟩))
    have htab : TableAt w2 T m (tabOf (m : Int) zss) := by have := HTA.out; rwa [Int.toNat_natCast] at this
    have hTb : T < w2.heap.size := World.block_lt_of_cell? _ _ htab.h0
    have hinv0 := InvC.init w w2 T m m (tabOf (m : Int) zss) 57 28 2 HB2.out htab
    have hbox : ((((w2.alloc (Obj.cells #[.pointer (some ⟨T, 0, none⟩)] 57)).alloc (Obj.cells (madeCells #[.int .i64 0] m) 2)).alloc (Obj.cells #[.slice (some { block := w2.heap.size + 1, off := 0 }) m m] 28)).alloc (Obj.cells #[.int .i64 (m : Nat)] 2)).cell? ⟨w2.heap.size + 1 + 1 + 1, 0, none⟩ = some (.int .i64 (m : Nat)) := by
      simp [go_sem]
    have hsz : ((((w2.alloc (Obj.cells #[.pointer (some ⟨T, 0, none⟩)] 57)).alloc (Obj.cells (madeCells #[.int .i64 0] m) 2)).alloc (Obj.cells #[.slice (some { block := w2.heap.size + 1, off := 0 }) m m] 28)).alloc (Obj.cells #[.int .i64 (m : Nat)] 2)).heap.size = w2.heap.size + 4 := by
      simp
    have HT : w.heap.size < w2.heap.size ∧ T < w2.heap.size := ⟨hlw2, hTb⟩
    have hp1 : ((((w2.alloc (Obj.cells #[.pointer (some ⟨T, 0, none⟩)] 57)).alloc (Obj.cells (madeCells #[.int .i64 0] m) 2)).alloc (Obj.cells #[.slice (some { block := w2.heap.size + 1, off := 0 }) m m] 28)).alloc (Obj.cells #[.int .i64 (m : Nat)] 2)).cell? ⟨w.heap.size, 0, none⟩ = some (.int .i64 (m : Nat)) := by
      simp [go_sem, d0, hlw2, hlw6, hlw7]
    have hwb : w.heap.size < w2.heap.size := hlw2
    clear htab d0 hmk HTA hlw2 hlw3 hlw4 hlw5 hlw6 hlw7
    generalize ((((w2.alloc (Obj.cells #[.pointer (some ⟨T, 0, none⟩)] 57)).alloc (Obj.cells (madeCells #[.int .i64 0] m) 2)).alloc (Obj.cells #[.slice (some { block := w2.heap.size + 1, off := 0 }) m m] 28)).alloc (Obj.cells #[.int .i64 (m : Nat)] 2)) = w0 at hinv0 hbox hsz hp1 ⊢
    generalize w2.heap.size = b at *
    generalize tabOf (m : Int) zss = q at *
    refine wpIn_rangeFunc_ownG rfl (by decide) (gf := 87) (lb := #[.pointer (some ⟨b + 1 + 1 + 1, 0, none⟩)]) rfl trivial (enters_of Tryd.func87 (by kernel_rfl) rfl)
      (groups_stops 8 m (b + 1 + 1 + 1) w0 m7 (by omega) hbox) (fun _ _ => trivial) (fun _ _ _ _ _ _ _ _ => trivial) (Below.refl _ _) (fun _ => rfl)
      (fun pre W => InvS w T m b m q (swL q pre) W)
      (fun _ _ _ => False)
      (InvS.own (by omega))
      (fun _ _ _ _ _ hs _ _ => hs)
      (InvS.alike ⟨hinv0, hp1⟩ fun i _ => rfl)
      (fun x => { tmps := #[.agg #[.int .i64 (m : Nat), .slice a zss.length c], .pointer (some ⟨w.heap.size, 0, none⟩), .slice none 0 0, .int .i64 0, .pointer (some ⟨b, 0, none⟩), .pointer (some ⟨b + 1 + 1, 0, none⟩), .int .u64 (x.val : Int), undef, .agg #[.int .i64 (m : Nat), .slice a zss.length c], .pointer (some ⟨T, 0, none⟩), .pointer (some ⟨T, 0, none⟩), .bool false, .pointer (some ⟨w.heap.size, 0, none⟩), .int .i64 (m : Nat), .slice (some ⟨b + 1, 0, none⟩) m m, .pointer (some ⟨w.heap.size, 0, none⟩), .int .i64 (m : Nat), .func (.func 87) #[] #[.pointer (some ⟨b + 1 + 1 + 1, 0, none⟩)], .int .u64 (x.val : Int), undef, undef, undef, undef, undef, undef, undef, undef, undef, undef, undef, undef, undef, undef, undef, undef, undef, undef, undef, undef, undef, undef, undef, undef], defers := [] }) ?assign ?body ?done ?stop
    case assign =>
      intro l x W K hK
      dsimp only [encG]
      gi_wp2
      exact hK
    case body =>
      intro l pre x W hI hlt
      have hx := x.isLt
      have hxi : ((x.val : Nat) : Int) < 128 := by omega
      have hmx : Tryd.prog.follows .mixedOrders = true := by kernel_rfl
      have hpre : pre.length < 128 := Nat.lt_of_lt_of_le hlt (lexAll_len m7)
      have p1 := hI.p1
      have HI := Lib.hid hI
      have HSN := Lib.hid (swL_snoc q pre x)
      have HSL := Lib.hid (swL_le q pre)
      clear hinv0 hbox hsz hI hp1
      gi_wp2
      gi_loopw [21] (fun i wr => ∃ j : Nat, j ≤ m ∧ i = .int .i64 j ∧ KeepsOthers W wr ∧ InvS w T m b m q (swMid (swL q pre) (swL q (pre ++ [x])) j) wr)
        (fun i _ => m - (intOf i).toNat)
      case atStart => exact ⟨0, by omega, rfl, KeepsOthers.refl W, HI.out.alike fun i _ => (swMid_zero _ _ i).symm⟩
      case round =>
        obtain ⟨j, hj, rfl, hko, hIj⟩ := hrel
        have HKO := Lib.hid hko
        have HIJ := Lib.hid hIj
        have p4 := hIj.c.p4
        have p5 := hIj.c.p5
        have htb := Lib.hid (hIj.c.tab.step (drew_step wr))
        clear hko
        by_cases hjm : j < m
        · have hji : (j : Int) < (m : Int) := by omega
          cases hq : q x.val with
          | true =>
            have HSW := Lib.hid (show swL q (pre ++ [x]) j = swL q pre j by rw [HSN.out, swing, hq]; simp)
            have HOX := Lib.hid (opens_any T m x.val q wr.drew hx htb.out)
            rw [hq] at HOX
            clear hq hIj
            gi_wp2
            refine wpIn_region_round l rfl (by kernel_rfl) hmx ?_
            refine wpAnyIn_take (i := 1) (v := ?_) rfl rfl (by kernel_rfl) (by kernel_rfl) (by kernel_rfl) (fun _ _ _ h => h) ⟨Or.inl ⟨by rfl, by intro w; go_simp; try with_reducible rfl⟩, fun _ => rfl⟩ ?_
            refine wpAnyIn_ready (rs := [0]) (by kernel_rfl) (by simp) ?_
            refine AllReadyIn.cons rfl (fun K hK => ?_) AllReadyIn.nil
            go_simp
            refine hK _ _ ?_; clear hK K
            refine wpAnyIn_ready (rs := [2]) (by kernel_rfl) (by simp) ?_
            refine AllReadyIn.cons rfl (fun K hK => ?_) AllReadyIn.nil
            go_simp
            gi_wp2_with (refine ⟨trivial, ?_⟩; gi_at_call 47; refine (callsIn_wide.2 HOX.out).mono ?_; rintro e w' ⟨rfl, rfl⟩)
            refine wpAnyIn_take (i := 3) (v := ?_) rfl rfl (by kernel_rfl) (by kernel_rfl) (by kernel_rfl) (fun _ _ _ h => h) ⟨Or.inl ⟨by rfl, by intro w; go_simp; try with_reducible rfl⟩, fun _ => rfl⟩ ?_
            refine wpAnyIn_take (i := 4) (v := ?_) rfl rfl (by kernel_rfl) (by kernel_rfl) (by kernel_rfl) (fun _ _ _ h => h) ⟨Or.inl ⟨by rfl, by intro w; go_simp; try with_reducible rfl⟩, fun _ => rfl⟩ ?_
            refine wpAnyIn_take (i := 6) (v := undef) rfl rfl (by kernel_rfl) (by kernel_rfl) (by kernel_rfl) (fun _ _ _ h => h) ⟨Or.inr ⟨by rfl, rfl⟩, fun _ => rfl⟩ ?_
            refine wpAnyIn_take (i := 7) (v := undef) rfl rfl (by kernel_rfl) (by kernel_rfl) (by kernel_rfl) (fun _ _ _ h => h) ⟨Or.inr ⟨by rfl, rfl⟩, fun _ => rfl⟩ ?_
            refine wpAnyIn_ready (rs := [5, 8]) (by kernel_rfl) (by simp) ?_
            refine AllReadyIn.cons rfl (fun K hK => ?_) (AllReadyIn.cons rfl (fun K hK => ?_) AllReadyIn.nil)
            · go_simp
              first | (refine hK _ _ ?_) | (refine ⟨trivial, hK _ _ ?_⟩) | (refine ⟨fun _ _ => trivial, hK _ _ ?_⟩)
              clear hK K
              refine wpAnyIn_ready (rs := [8]) (by kernel_rfl) (by simp) ?_
              refine AllReadyIn.cons rfl (fun K hK => ?_) AllReadyIn.nil
              go_simp
              first | (refine hK _ _ ?_) | (refine ⟨trivial, hK _ _ ?_⟩) | (refine ⟨fun _ _ => trivial, hK _ _ ?_⟩)
              clear hK K
              refine wpAnyIn_ready (rs := [9]) (by kernel_rfl) (by simp) ?_
              refine AllReadyIn.cons rfl (fun K hK => ?_) AllReadyIn.nil
              go_simp
              first | (refine hK _ _ ?_) | (refine ⟨trivial, hK _ _ ?_⟩) | (refine ⟨fun _ _ => trivial, hK _ _ ?_⟩)
              clear hK K
              refine wpAnyIn_take (i := 10) (v := ?_) rfl rfl (by kernel_rfl) (by kernel_rfl) (by kernel_rfl) (fun _ _ _ h => h) ⟨Or.inl ⟨by rfl, by intro w; go_simp; try with_reducible rfl⟩, fun _ => rfl⟩ ?_
              refine wpAnyIn_done (by kernel_rfl) ?_ _
              gi_wp2
              exact ⟨⟨j + 1, by omega, by go_num, HKO.out.trans (KeepsOthers.drew _), (HIJ.out.step (drew_step _)).alike fun i _ => swMid_keep HSW.out i⟩, by simp [intOf]; omega⟩
            · go_simp
              first | (refine hK _ _ ?_) | (refine ⟨trivial, hK _ _ ?_⟩) | (refine ⟨fun _ _ => trivial, hK _ _ ?_⟩)
              clear hK K
              refine wpAnyIn_ready (rs := [5]) (by kernel_rfl) (by simp) ?_
              refine AllReadyIn.cons rfl (fun K hK => ?_) AllReadyIn.nil
              go_simp
              first | (refine hK _ _ ?_) | (refine ⟨trivial, hK _ _ ?_⟩) | (refine ⟨fun _ _ => trivial, hK _ _ ?_⟩)
              clear hK K
              refine wpAnyIn_ready (rs := [9]) (by kernel_rfl) (by simp) ?_
              refine AllReadyIn.cons rfl (fun K hK => ?_) AllReadyIn.nil
              go_simp
              first | (refine hK _ _ ?_) | (refine ⟨trivial, hK _ _ ?_⟩) | (refine ⟨fun _ _ => trivial, hK _ _ ?_⟩)
              clear hK K
              refine wpAnyIn_take (i := 10) (v := ?_) rfl rfl (by kernel_rfl) (by kernel_rfl) (by kernel_rfl) (fun _ _ _ h => h) ⟨Or.inl ⟨by rfl, by intro w; go_simp; try with_reducible rfl⟩, fun _ => rfl⟩ ?_
              refine wpAnyIn_done (by kernel_rfl) ?_ _
              gi_wp2
              exact ⟨⟨j + 1, by omega, by go_num, HKO.out.trans (KeepsOthers.drew _), (HIJ.out.step (drew_step _)).alike fun i _ => swMid_keep HSW.out i⟩, by simp [intOf]; omega⟩
          | false =>
            have HOX := Lib.hid (opens_any T m x.val q wr.drew hx htb.out)
            rw [hq] at HOX
            have HWI := Lib.hid (with_any x.val (j : Int) wr.drew hx (by omega) (by omega))
            rw [Int.toNat_natCast, show x.val ||| 2 ^ j = addOne x.val j from rfl] at HWI
            have hys : addOne x.val j < 128 := addOne_small hx (by omega)
            have HOY := Lib.hid (opens_any T m (addOne x.val j) q wr.drew hys htb.out)
            cases hy : q (addOne x.val j) with
            | false =>
              have HSW := Lib.hid (show swL q (pre ++ [x]) j = swL q pre j by rw [HSN.out, swing, hq, hy]; simp)
              rw [hy] at HOY
              clear hq hy hIj
              generalize addOne x.val j = y at *
              gi_wp2
              refine wpIn_region_round l rfl (by kernel_rfl) hmx ?_
              refine wpAnyIn_take (i := 1) (v := ?_) rfl rfl (by kernel_rfl) (by kernel_rfl) (by kernel_rfl) (fun _ _ _ h => h) ⟨Or.inl ⟨by rfl, by intro w; go_simp; try with_reducible rfl⟩, fun _ => rfl⟩ ?_
              refine wpAnyIn_ready (rs := [0]) (by kernel_rfl) (by simp) ?_
              refine AllReadyIn.cons rfl (fun K hK => ?_) AllReadyIn.nil
              go_simp
              refine hK _ _ ?_; clear hK K
              refine wpAnyIn_ready (rs := [2]) (by kernel_rfl) (by simp) ?_
              refine AllReadyIn.cons rfl (fun K hK => ?_) AllReadyIn.nil
              go_simp
              gi_wp2_with (refine ⟨trivial, ?_⟩; gi_at_call 47; refine (callsIn_wide.2 HOX.out).mono ?_; rintro e w' ⟨rfl, rfl⟩)
              refine wpAnyIn_take (i := 3) (v := ?_) rfl rfl (by kernel_rfl) (by kernel_rfl) (by kernel_rfl) (fun _ _ _ h => h) ⟨Or.inl ⟨by rfl, by intro w; go_simp; try with_reducible rfl⟩, fun _ => rfl⟩ ?_
              refine wpAnyIn_take (i := 4) (v := ?_) rfl rfl (by kernel_rfl) (by kernel_rfl) (by kernel_rfl) (fun _ _ _ h => h) ⟨Or.inl ⟨by rfl, by intro w; go_simp; try with_reducible rfl⟩, fun _ => rfl⟩ ?_
              refine wpAnyIn_take (i := 6) (v := ?_) rfl rfl (by kernel_rfl) (by kernel_rfl) (by kernel_rfl) (fun _ _ _ h => h) ⟨Or.inl ⟨by rfl, by intro w; go_simp; try with_reducible rfl⟩, fun _ => rfl⟩ ?_
              refine wpAnyIn_take (i := 7) (v := ?_) rfl rfl (by kernel_rfl) (by kernel_rfl) (by kernel_rfl) (fun _ _ _ h => h) ⟨Or.inl ⟨by rfl, by intro w; go_simp; try with_reducible rfl⟩, fun _ => rfl⟩ ?_
              refine wpAnyIn_ready (rs := [5, 8]) (by kernel_rfl) (by simp) ?_
              refine AllReadyIn.cons rfl (fun K hK => ?_) (AllReadyIn.cons rfl (fun K hK => ?_) AllReadyIn.nil)
              · go_simp
                refine hK _ _ ?_; clear hK K
                refine wpAnyIn_ready (rs := [8]) (by kernel_rfl) (by simp) ?_
                refine AllReadyIn.cons rfl (fun K hK => ?_) AllReadyIn.nil
                go_simp
                gi_wp2_with (refine ⟨trivial, ?_⟩; gi_at_call 61; refine (callsIn_wide.2 HWI.out).mono ?_; rintro e w' ⟨rfl, rfl⟩)
                refine wpAnyIn_ready (rs := [9]) (by kernel_rfl) (by simp) ?_
                refine AllReadyIn.cons rfl (fun K hK => ?_) AllReadyIn.nil
                go_simp
                gi_wp2_with (refine ⟨trivial, ?_⟩; gi_at_call 47; refine (callsIn_wide.2 HOY.out).mono ?_; rintro e w' ⟨rfl, rfl⟩)
                refine wpAnyIn_take (i := 10) (v := ?_) rfl rfl (by kernel_rfl) (by kernel_rfl) (by kernel_rfl) (fun _ _ _ h => h) ⟨Or.inl ⟨by rfl, by intro w; go_simp; try with_reducible rfl⟩, fun _ => rfl⟩ ?_
                refine wpAnyIn_done (by kernel_rfl) ?_ _
                gi_wp2
                exact ⟨⟨j + 1, by omega, by go_num, HKO.out.trans (KeepsOthers.drew _), (HIJ.out.step (drew_step _)).alike fun i _ => swMid_keep HSW.out i⟩, by simp [intOf]; omega⟩
              · go_simp
                gi_wp2_with (refine ⟨trivial, ?_⟩; gi_at_call 61; refine (callsIn_wide.2 HWI.out).mono ?_; rintro e w' ⟨rfl, rfl⟩)
                refine wpAnyIn_ready (rs := [5]) (by kernel_rfl) (by simp) ?_
                refine AllReadyIn.cons rfl (fun K hK => ?_) AllReadyIn.nil
                go_simp
                refine hK _ _ ?_; clear hK K
                refine wpAnyIn_ready (rs := [9]) (by kernel_rfl) (by simp) ?_
                refine AllReadyIn.cons rfl (fun K hK => ?_) AllReadyIn.nil
                go_simp
                gi_wp2_with (refine ⟨trivial, ?_⟩; gi_at_call 47; refine (callsIn_wide.2 HOY.out).mono ?_; rintro e w' ⟨rfl, rfl⟩)
                refine wpAnyIn_take (i := 10) (v := ?_) rfl rfl (by kernel_rfl) (by kernel_rfl) (by kernel_rfl) (fun _ _ _ h => h) ⟨Or.inl ⟨by rfl, by intro w; go_simp; try with_reducible rfl⟩, fun _ => rfl⟩ ?_
                refine wpAnyIn_done (by kernel_rfl) ?_ _
                gi_wp2
                exact ⟨⟨j + 1, by omega, by go_num, HKO.out.trans (KeepsOthers.drew _), (HIJ.out.step (drew_step _)).alike fun i _ => swMid_keep HSW.out i⟩, by simp [intOf]; omega⟩
            | true =>
              have hcell := hIj.c.row.cell hjm
              rw [swMid_at] at hcell
              have hfr := hIj.c.row.frozen j
              have hbd := HSL.out j
              have HSET := Lib.hid (show ∀ i, (if i = j then swL q pre j + 1 else swMid (swL q pre) (swL q (pre ++ [x])) j i) = swMid (swL q pre) (swL q (pre ++ [x])) (j + 1) i from fun i => swMid_set (by rw [HSN.out, swing, hq, hy]; simp) i)
              rw [hy] at HOY
              clear hq hy hIj
              generalize addOne x.val j = y at *
              generalize swL q pre j = cv at *
              gi_wp2
              refine wpIn_region_round l rfl (by kernel_rfl) hmx ?_
              refine wpAnyIn_take (i := 1) (v := ?_) rfl rfl (by kernel_rfl) (by kernel_rfl) (by kernel_rfl) (fun _ _ _ h => h) ⟨Or.inl ⟨by rfl, by intro w; go_simp; try with_reducible rfl⟩, fun _ => rfl⟩ ?_
              refine wpAnyIn_ready (rs := [0]) (by kernel_rfl) (by simp) ?_
              refine AllReadyIn.cons rfl (fun K hK => ?_) AllReadyIn.nil
              go_simp
              refine hK _ _ ?_; clear hK K
              refine wpAnyIn_ready (rs := [2]) (by kernel_rfl) (by simp) ?_
              refine AllReadyIn.cons rfl (fun K hK => ?_) AllReadyIn.nil
              go_simp
              gi_wp2_with (refine ⟨trivial, ?_⟩; gi_at_call 47; refine (callsIn_wide.2 HOX.out).mono ?_; rintro e w' ⟨rfl, rfl⟩)
              refine wpAnyIn_take (i := 3) (v := ?_) rfl rfl (by kernel_rfl) (by kernel_rfl) (by kernel_rfl) (fun _ _ _ h => h) ⟨Or.inl ⟨by rfl, by intro w; go_simp; try with_reducible rfl⟩, fun _ => rfl⟩ ?_
              refine wpAnyIn_take (i := 4) (v := ?_) rfl rfl (by kernel_rfl) (by kernel_rfl) (by kernel_rfl) (fun _ _ _ h => h) ⟨Or.inl ⟨by rfl, by intro w; go_simp; try with_reducible rfl⟩, fun _ => rfl⟩ ?_
              refine wpAnyIn_take (i := 6) (v := ?_) rfl rfl (by kernel_rfl) (by kernel_rfl) (by kernel_rfl) (fun _ _ _ h => h) ⟨Or.inl ⟨by rfl, by intro w; go_simp; try with_reducible rfl⟩, fun _ => rfl⟩ ?_
              refine wpAnyIn_take (i := 7) (v := ?_) rfl rfl (by kernel_rfl) (by kernel_rfl) (by kernel_rfl) (fun _ _ _ h => h) ⟨Or.inl ⟨by rfl, by intro w; go_simp; try with_reducible rfl⟩, fun _ => rfl⟩ ?_
              refine wpAnyIn_ready (rs := [5, 8]) (by kernel_rfl) (by simp) ?_
              refine AllReadyIn.cons rfl (fun K hK => ?_) (AllReadyIn.cons rfl (fun K hK => ?_) AllReadyIn.nil)
              · go_simp
                refine hK _ _ ?_; clear hK K
                refine wpAnyIn_ready (rs := [8]) (by kernel_rfl) (by simp) ?_
                refine AllReadyIn.cons rfl (fun K hK => ?_) AllReadyIn.nil
                go_simp
                gi_wp2_with (refine ⟨trivial, ?_⟩; gi_at_call 61; refine (callsIn_wide.2 HWI.out).mono ?_; rintro e w' ⟨rfl, rfl⟩)
                refine wpAnyIn_ready (rs := [9]) (by kernel_rfl) (by simp) ?_
                refine AllReadyIn.cons rfl (fun K hK => ?_) AllReadyIn.nil
                go_simp
                gi_wp2_with (refine ⟨trivial, ?_⟩; gi_at_call 47; refine (callsIn_wide.2 HOY.out).mono ?_; rintro e w' ⟨rfl, rfl⟩)
                refine wpAnyIn_take (i := 10) (v := ?_) rfl rfl (by kernel_rfl) (by kernel_rfl) (by kernel_rfl) (fun _ _ _ h => h) ⟨Or.inl ⟨by rfl, by intro w; go_simp; try with_reducible rfl⟩, fun _ => rfl⟩ ?_
                refine wpAnyIn_done (by kernel_rfl) ?_ _
                gi_wp2
                refine ⟨⟨j + 1, by omega, by go_num, (HKO.out.trans (KeepsOthers.drew _)).trans (KeepsOthers.setCell _ _ _), ?_⟩, by simp [intOf]; omega⟩
                exact ((HIJ.out.step (drew_step _)).mark HT hjm (cv + 1)).alike fun i _ => HSET.out i
              · go_simp
                gi_wp2_with (refine ⟨trivial, ?_⟩; gi_at_call 61; refine (callsIn_wide.2 HWI.out).mono ?_; rintro e w' ⟨rfl, rfl⟩)
                refine wpAnyIn_ready (rs := [5]) (by kernel_rfl) (by simp) ?_
                refine AllReadyIn.cons rfl (fun K hK => ?_) AllReadyIn.nil
                go_simp
                refine hK _ _ ?_; clear hK K
                refine wpAnyIn_ready (rs := [9]) (by kernel_rfl) (by simp) ?_
                refine AllReadyIn.cons rfl (fun K hK => ?_) AllReadyIn.nil
                go_simp
                gi_wp2_with (refine ⟨trivial, ?_⟩; gi_at_call 47; refine (callsIn_wide.2 HOY.out).mono ?_; rintro e w' ⟨rfl, rfl⟩)
                refine wpAnyIn_take (i := 10) (v := ?_) rfl rfl (by kernel_rfl) (by kernel_rfl) (by kernel_rfl) (fun _ _ _ h => h) ⟨Or.inl ⟨by rfl, by intro w; go_simp; try with_reducible rfl⟩, fun _ => rfl⟩ ?_
                refine wpAnyIn_done (by kernel_rfl) ?_ _
                gi_wp2
                refine ⟨⟨j + 1, by omega, by go_num, (HKO.out.trans (KeepsOthers.drew _)).trans (KeepsOthers.setCell _ _ _), ?_⟩, by simp [intOf]; omega⟩
                exact ((HIJ.out.step (drew_step _)).mark HT hjm (cv + 1)).alike fun i _ => HSET.out i
        · have HJ := Lib.hid (show j = m by omega)
          clear hIj
          gi_wp2
          exact ⟨HKO.out.from _, trivial, HIJ.out.alike fun i hi => swMid_all _ _ (by have := HJ.out; omega)⟩
    case done =>
      rintro D ys W hD rfl hI hK
      have p5 := hI.c.p5
      have hDw : w.heap.size ≤ D := by omega
      have HI := Lib.hid hI
      clear hI hinv0 hbox hsz hp1
      gi_wp2
      refine ⟨by simp, .inl ⟨_, _, rfl, run_takeDeferred hK, ?_⟩⟩
      refine ⟨_, results_tmp2 rfl _ _ _, ?_⟩
      rw [HV.out, HCO.out]
      have hrow : (W.putObj D (.deferred none)).rowIs (b + 1) 2 (swList (tblAt zss zss.length) m).length (fun i => .int .i64 (nth (swList (tblAt zss zss.length) m) i)) := by
        rw [swList_len]
        refine (rowIs_kept HI.out.c.row (grownBy_putObj' W D (.deferred none)) (fun r e => by cases e; exact ⟨_, hK, rfl⟩)).congr fun i hi => ?_
        rw [swList_nth _ hi, sw_same m7, swR_congr HQ.out hi]
      have ho := own_of_row hrow (by rw [swList_len]; unfold maxLen; omega)
      rw [swList_len] at ho
      exact ⟨⟨_, rfl, ho.mono (by omega)⟩, HI.out.c.bel.grown (grownBy_putObj' _ D _) HI.out.c.bel.size (fun k e => by cases e; omega)⟩
    case stop =>
      intro D c pre W _ _ hh _
      exact hh.elim
end Go.Proofs.YteifllengcacbaaDoor
