/- The program's CountBySize. -/
import Derived.Test.YteifllengcacbaaDoorCnt
namespace Go.Proofs.YteifllengcacbaaDoor
open Go.RowKit Go.Deep Go.Shelf
set_option linter.unusedVariables false
attribute [local go_sem] Oper.semAt_some

/-- What lies where the groups are counted. -/
structure InvC (w : World) (T m b N : Nat) (q : Nat → Bool) (f : Nat → Nat) (W : World) : Prop where
  bel : Below w.heap.size w W
  sz : b + 4 ≤ W.heap.size
  p4 : W.cell? ⟨b, 0, none⟩ = some (.pointer (some ⟨T, 0, none⟩))
  p5 : W.cell? ⟨b + 1 + 1, 0, none⟩ = some (.slice (some ⟨b + 1, 0, none⟩) N N)
  tab : TableAt W T m q
  row : W.rowIs (b + 1) 2 N (fun i => .int .i64 ((f i : Nat) : Int))

theorem i64_wrap_small {x : Int} {n : Nat} (h : x = (n : Int)) (hn : n < 1000) : IntKind.i64.wrap x = (n : Int) := by
  subst h
  rw [IntKind.wrap_i64]
  omega

theorem rowIs_kept {W W' : World} {row : Option Nat} {g n : Nat} {t : TypeId} {f : Nat → Value} (hs : W.rowIs g t n f) (hg : W.grownBy W' row) (hr' : ∀ r, row = some r → ∃ o : Obj, W.heap[r]? = some o ∧ o.isCells = false) : W'.rowIs g t n f := by
  refine hs.of_block (hg.block _ hs.lt (fun e => ?_))
  obtain ⟨ob, h1, h2⟩ := hr' _ e.symm
  obtain ⟨c, hgc, _⟩ := hs
  rw [hgc] at h1
  cases h1
  simp [Obj.isCells] at h2

theorem InvC.own {w : World} {T m b N : Nat} {q : Nat → Bool} {f : List G7 → Nat → Nat} {B : Nat} (hB : w.heap.size ≤ B) : OwnFrom B (fun pre W => InvC w T m b N q (f pre) W) := by
  intro pre W W' row hs hg hr
  have hr' : ∀ r, row = some r → ∃ o : Obj, W.heap[r]? = some o ∧ o.isCells = false := fun r e => (hr r e).2
  exact ⟨hs.bel.grown hg hs.bel.size (fun k hk => by have := (hr k hk).1; omega), Nat.le_trans hs.sz hg.size, cell_kept hs.p4 hg hr', cell_kept hs.p5 hg hr', hs.tab.kept hg hr', rowIs_kept hs.row hg hr'⟩
theorem InvC.step {w W W' : World} {T m b N : Nat} {q : Nat → Bool} {f : Nat → Nat} (hs : InvC w T m b N q f W) (hb : Below W.heap.size W W') : InvC w T m b N q f W' :=
  ⟨chain2 hs.bel hb hs.bel.size, Nat.le_trans hs.sz hb.size, cell_step hb hs.p4, cell_step hb hs.p5, hs.tab.step hb, rowIs_below hs.row hb hs.row.lt⟩
theorem InvC.mark {w W : World} {T m b N s : Nat} {q : Nat → Bool} {f : Nat → Nat} (hs : InvC w T m b N q f W) (hT : w.heap.size ≤ b ∧ T < b) (hsN : s < N) (v : Nat) :
    InvC w T m b N q (fun i => if i = s then v else f i) (W.setCell ⟨b + 1, s, none⟩ (.int .i64 ((v : Nat) : Int))) := by
  refine ⟨hs.bel.setCell (by simp <;> omega) _, by simpa [World.setCell] using hs.sz, ?_, ?_, ⟨?_, fun y hy => ?_, fun o => ?_⟩, ?_⟩
  · rw [World.cell?_setCell_other _ _ _ _ (by simp <;> omega)]; exact hs.p4
  · rw [World.cell?_setCell_other _ _ _ _ (by simp <;> omega)]; exact hs.p5
  · rw [World.cell?_setCell_other _ _ _ _ (by simp <;> omega)]; exact hs.tab.h0
  · rw [World.cell?_setCell_other _ _ _ _ (by simp <;> omega)]; exact hs.tab.cell y hy
  · rw [World.frozen?_setCell]; exact hs.tab.free o
  · refine (hs.row.set s _).congr fun i _ => ?_
    by_cases e : i = s <;> simp [e]
theorem InvC.alike {w W : World} {T m b N : Nat} {q : Nat → Bool} {f f' : Nat → Nat} (hs : InvC w T m b N q f W) (e : ∀ i, f i = f' i) : InvC w T m b N q f' W := by
  have : f = f' := funext e
  exact this ▸ hs
theorem InvC.init (w w2 : World) (T m N : Nat) (q : Nat → Bool) (t1 t3 t4 : TypeId) (hb : Below w.heap.size w w2) (ht : TableAt w2 T m q) :
    InvC w T m w2.heap.size N q (fun _ => 0) ((((w2.alloc (Obj.cells #[.pointer (some ⟨T, 0, none⟩)] t1)).alloc (Obj.cells (madeCells #[.int .i64 0] N) 2)).alloc (Obj.cells #[.slice (some { block := w2.heap.size + 1, off := 0 }) N N] t3)).alloc (Obj.cells #[.int .i64 (m : Nat)] t4)) := by
  have h1 := (Below.refl w2.heap.size w2).alloc (Nat.le_refl _) (.cells #[.pointer (some ⟨T, 0, none⟩)] t1)
  have r0 := World.rowIs_made (w2.alloc (.cells #[.pointer (some ⟨T, 0, none⟩)] t1)) (.int .i64 0) N 2
  rw [World.size_alloc] at r0
  have h2 := h1.alloc (by simp) (.cells (madeCells #[.int .i64 0] N) 2)
  have h3 := h2.alloc (by simp <;> omega) (.cells #[.slice (some ⟨w2.heap.size + 1, 0, none⟩) N N] t3)
  have h4 := h3.alloc (by simp <;> omega) (.cells #[.int .i64 (m : Nat)] t4)
  refine ⟨hb.trans (h4.mono hb.size), by simp, by simp [go_sem], by simp [go_sem], ht.step h4, ?_⟩
  refine rowIs_below r0 (((Below.refl _ _).alloc (Nat.le_refl _) (.cells #[.slice (some ⟨w2.heap.size + 1, 0, none⟩) N N] t3)).alloc (by simp) (.cells #[.int .i64 (m : Nat)] t4)) r0.lt

set_option maxHeartbeats 4000000 in
set_option maxRecDepth 100000 in
theorem implCnt_any (h : Int) (a : Option Addr) (zss : List (List Int)) (c : Nat) (w : World) (hr : Rows2 w a zss) (hl : Small2 zss) :
    Calls Tryd.prog 33 #[.agg #[.int .i64 h, .slice a zss.length c]] w (GivesIntsCode w (cntOf h zss) (okCode h zss)) := by
  have hb1 := (Below.refl w.heap.size w).alloc (Nat.le_refl _) (.cells #[.int .i64 h, .slice a zss.length c] 26)
  have c0 : (w.alloc (.cells #[.int .i64 h, .slice a zss.length c] 26)).cell? ⟨w.heap.size, 0, none⟩ = some (.int .i64 h) := by simp
  have hlt0 : w.heap.size < (w.alloc (.cells #[.int .i64 h, .slice a zss.length c] 26)).heap.size := by simp
  have HR := Lib.hid (hr.step hb1)
  have HL := Lib.hid hl
  have HB := Lib.hid hb1
  have HC0 := Lib.hid c0
  clear hr hl hb1 c0
  cases hf : tell (FamOk h zss) with
  | false =>
    have HFO := Lib.hid (of_tell_false hf)
    have HF := Lib.hid hf
    clear hf
    go_enter Tryd.func33, Tryd.ntmps33
    go_wp2_with fail
    refine (tableOf_any h a zss c _ HR.out HL.out).mono ?_
    generalize w.alloc (.cells #[.int .i64 h, .slice a zss.length c] 26) = w1 at *
    rintro e w2 ⟨-, hn, hb⟩
    obtain rfl := hn HFO.out
    have HB2 := Lib.hid (chain HB.out hb)
    have hs2 := HB2.out.size
    clear hn hb
    go_wp2_with fail
    go_ret2
    exact ⟨⟨_, by rw [okCode, HF.out]; rfl, by rw [cntOf, HF.out]; exact OwnI.nil _ _⟩, HB2.out.alloc hs2 _⟩
  | true =>
    have HFO := Lib.hid (of_tell hf)
    have HF := Lib.hid hf
    have hh1 : 1 ≤ h := HFO.out.1.1
    have hh7 : h ≤ 7 := HFO.out.1.2
    clear hf
    obtain ⟨m, rfl⟩ : ∃ m : Nat, h = (m : Int) := ⟨h.toNat, by omega⟩
    have m1 : 1 ≤ m := by omega
    have m7 : m ≤ 7 := by omega
    obtain ⟨N, hN⟩ : ∃ N : Nat, (m : Int) + 1 = (N : Int) := ⟨m + 1, by omega⟩
    have hN1 : N ≤ 8 := by omega
    have HNM := Lib.hid (show N = m + 1 by omega)
    have hmk := run_make_row' (P := Tryd.prog) 28 2 (.int .i64 0) 8 Tryd.underlying28 Tryd.infoInt64 rfl .i64 .i64 N (by omega) (by omega)
    have HV := Lib.hid (show cntOf (m : Int) zss = cntList (tblAt zss zss.length) m by rw [cntOf, HF.out, Int.toNat_natCast]; rfl)
    have HCO := Lib.hid (show okCode (m : Int) zss = 0 by rw [okCode, HF.out]; rfl)
    have HQ := Lib.hid (show ∀ y, y < 2 ^ m → tabOf (m : Int) zss y = tblAt zss zss.length y from fun y hy => by unfold tabOf; rw [Int.toNat_natCast]; exact seenBy_all m7 _ hy)
    have HQS := Lib.hid (show ∀ x : G7, tabOf (m : Int) zss x.val = true → (listOf x.val).length < N from fun x hx => by
      unfold tabOf seenBy at hx
      rw [Int.toNat_natCast, Bool.and_eq_true, decide_eq_true_eq] at hx
      obtain ⟨⟨y, hy, e⟩, _⟩ := hx
      have h2 := (mem_lex m7 y).1 hy
      have := size_fact m m7 x.val x.isLt (by rw [← e]; exact h2)
      have := HNM.out
      omega)
    refine (callsIn_wide (n := 9)).1 ?_
    have hdd : ∀ k : Nat, (Fence.wide.depth.isSome = true → 1 ≤ k) := fun k h => by cases h
    refine callsIn_of_wp_marks Tryd.func33 rfl trivial ?_ rfl
    simp only [Tryd.ntmps33, List.size_toArray, List.length_cons, List.length_nil, Nat.reduceAdd, Nat.reduceSub, Array.replicate_succ, Array.replicate_zero, List.push_toArray, List.append_toArray, List.nil_append, List.cons_append]
    gi_wp2_with (first
      | (refine ⟨trivial, ?_⟩; gi_at_call 45; refine (callsIn_wide.2 (tableOf_any (m : Int) a zss c _ HR.out HL.out)).mono ?_; rintro e w2 ⟨hy, -, hb⟩; obtain ⟨T, rfl, hT, htab⟩ := hy HFO.out; have d0 := (hb.cell (p := ⟨w.heap.size, 0, none⟩) hlt0).trans HC0.out; have HB2 := Lib.hid (chain HB.out hb); have HTA := Lib.hid htab; have hlw := HB2.out.size; have hlw2 : w.heap.size < w2.heap.size := Nat.lt_of_lt_of_le hlt0 hb.size; have hlw3 : ¬ (w.heap.size = w2.heap.size) := Nat.ne_of_lt hlw2; have hlw4 : ¬ (w.heap.size = w2.heap.size + 1) := Nat.ne_of_lt (Nat.lt_succ_of_lt hlw2); have hlw5 : ¬ (w.heap.size = w2.heap.size + 1 + 1) := Nat.ne_of_lt (Nat.lt_succ_of_lt (Nat.lt_succ_of_lt hlw2)); have hlw6 : w.heap.size < w2.heap.size + 1 := Nat.lt_succ_of_lt hlw2; have hlw7 : w.heap.size < w2.heap.size + 1 + 1 := Nat.lt_succ_of_lt (Nat.lt_succ_of_lt hlw2); clear hy hb htab)
      | (refine ⟨trivial, ?_⟩; gi_at_call 69; refine (callsIn_wide.2 (groupsOf_any _ _)).mono ?_; rintro e w' ⟨rfl, rfl⟩))
    have htab : TableAt w2 T m (tabOf (m : Int) zss) := by have := HTA.out; rwa [Int.toNat_natCast] at this
    have hTb : T < w2.heap.size := World.block_lt_of_cell? _ _ htab.h0
    have hinv0 := InvC.init w w2 T m N (tabOf (m : Int) zss) 57 28 2 HB2.out htab
    have hbox : ((((w2.alloc (Obj.cells #[.pointer (some ⟨T, 0, none⟩)] 57)).alloc (Obj.cells (madeCells #[.int .i64 0] N) 2)).alloc (Obj.cells #[.slice (some { block := w2.heap.size + 1, off := 0 }) N N] 28)).alloc (Obj.cells #[.int .i64 (m : Nat)] 2)).cell? ⟨w2.heap.size + 1 + 1 + 1, 0, none⟩ = some (.int .i64 (m : Nat)) := by
      simp [go_sem]
    have hsz : ((((w2.alloc (Obj.cells #[.pointer (some ⟨T, 0, none⟩)] 57)).alloc (Obj.cells (madeCells #[.int .i64 0] N) 2)).alloc (Obj.cells #[.slice (some { block := w2.heap.size + 1, off := 0 }) N N] 28)).alloc (Obj.cells #[.int .i64 (m : Nat)] 2)).heap.size = w2.heap.size + 4 := by
      simp
    have HT : w.heap.size ≤ w2.heap.size ∧ T < w2.heap.size := ⟨hlw, hTb⟩
    clear htab d0 hmk HTA hlw2 hlw3 hlw4 hlw5 hlw6 hlw7
    generalize ((((w2.alloc (Obj.cells #[.pointer (some ⟨T, 0, none⟩)] 57)).alloc (Obj.cells (madeCells #[.int .i64 0] N) 2)).alloc (Obj.cells #[.slice (some { block := w2.heap.size + 1, off := 0 }) N N] 28)).alloc (Obj.cells #[.int .i64 (m : Nat)] 2)) = w0 at hinv0 hbox hsz ⊢
    generalize w2.heap.size = b at *
    generalize tabOf (m : Int) zss = q at *
    refine wpIn_rangeFunc_ownG rfl (by decide) (gf := 87) (lb := #[.pointer (some ⟨b + 1 + 1 + 1, 0, none⟩)]) rfl trivial (enters_of Tryd.func87 (by kernel_rfl) rfl)
      (groups_stops 8 m (b + 1 + 1 + 1) w0 m7 (by omega) hbox) (fun _ _ => trivial) (fun _ _ _ _ _ _ _ _ => trivial) (Below.refl _ _) (fun _ => rfl)
      (fun pre W => InvC w T m b N q (cntL q pre) W)
      (fun _ _ _ => False)
      (InvC.own (by omega))
      (fun _ _ _ _ _ hs _ _ => hs)
      (hinv0.alike fun i => rfl)
      (fun x => { tmps := #[.agg #[.int .i64 (m : Nat), .slice a zss.length c], .pointer (some ⟨w.heap.size, 0, none⟩), .slice none 0 0, .int .i64 0, .pointer (some ⟨b, 0, none⟩), .pointer (some ⟨b + 1 + 1, 0, none⟩), .int .u64 (x.val : Int), .agg #[.int .i64 (m : Nat), .slice a zss.length c], .pointer (some ⟨T, 0, none⟩), .pointer (some ⟨T, 0, none⟩), .bool false, .pointer (some ⟨w.heap.size, 0, none⟩), .int .i64 (m : Nat), .int .i64 (N : Nat), .slice (some ⟨b + 1, 0, none⟩) N N, .pointer (some ⟨w.heap.size, 0, none⟩), .int .i64 (m : Nat), .func (.func 87) #[] #[.pointer (some ⟨b + 1 + 1 + 1, 0, none⟩)], .int .u64 (x.val : Int), undef, undef, undef, undef, undef, undef, undef, undef, undef, undef, undef], defers := [] }) ?assign ?body ?done ?stop
    case assign =>
      intro l x W K hK
      dsimp only [encG]
      gi_wp2
      exact hK
    case body =>
      intro l pre x W hI hlt
      have hx := x.isLt
      have hxi : ((x.val : Nat) : Int) < 128 := by omega
      have hmx : Tryd.prog.follows .mixedOrders = true := by kernel_rfl
      have hpre : pre.length < 128 := Nat.lt_of_lt_of_le hlt (lexAll_len m7)
      have p4 := hI.p4
      have p5 := hI.p5
      have htb := Lib.hid hI.tab
      have HI := Lib.hid hI
      clear hinv0 hbox hsz
      cases hq : q x.val with
      | false =>
        have HQX := Lib.hid hq
        clear hq hI
        gi_wp2_with (refine ⟨trivial, ?_⟩; gi_at_call 47; refine (callsIn_wide.2 (opens_any T m x.val q W hx htb.out)).mono ?_; rintro e w' ⟨rfl, rfl⟩; rw [HQX.out])
        exact ⟨(KeepsOthers.refl W).from _, trivial, HI.out.alike fun i => by rw [cntL_snoc, hits, HQX.out]; simp⟩
      | true =>
        have HQX := Lib.hid hq
        have hsN := HQS.out x hq
        have hcell := hI.row.cell hsN
        have hfr := hI.row.frozen (listOf x.val).length
        have hbd := cntL_le q pre (listOf x.val).length
        have HSZ := Lib.hid (size_any x.val W.drew hx)
        have HSN := Lib.hid (show ∀ i, (if i = (listOf x.val).length then cntL q pre (listOf x.val).length + 1 else cntL q pre i) = cntL q (pre ++ [x]) i from fun i => by
          rw [cntL_snoc, hits, HQX.out]
          by_cases e : i = (listOf x.val).length
          · subst e; simp
          · simp [e, Ne.symm e])
        have hsNi : ((listOf x.val).length : Int) < (N : Int) := by omega
        clear hq hI
        generalize (listOf x.val).length = s at *
        generalize hff : cntL q pre = f at *
        have hfs : f s < 128 := by omega
        have HWR := Lib.hid (show IntKind.i64.wrap (((f s : Nat) : Int) + 1) = ((f s + 1 : Nat) : Int) from i64_wrap_small (by omega) (by omega))
        clear hff
        gi_wp2_with (refine ⟨trivial, ?_⟩; gi_at_call 47; refine (callsIn_wide.2 (opens_any T m x.val q W hx htb.out)).mono ?_; rintro e w' ⟨rfl, rfl⟩; rw [HQX.out])
        refine wpIn_region_round l rfl (by kernel_rfl) hmx ?_
        refine wpAnyIn_take (i := 1) (v := ?_) rfl rfl (by kernel_rfl) (by kernel_rfl) (by kernel_rfl) (fun _ _ _ h => h) ⟨Or.inl ⟨by rfl, by intro w; go_simp; try with_reducible rfl⟩, fun _ => rfl⟩ ?_
        refine wpAnyIn_ready (rs := [0, 2]) (by kernel_rfl) (by simp) ?_
        refine AllReadyIn.cons rfl (fun K hK => ?_) (AllReadyIn.cons rfl (fun K hK => ?_) AllReadyIn.nil)
        · go_simp
          refine hK _ _ ?_; clear hK K
          refine wpAnyIn_ready (rs := [2]) (by kernel_rfl) (by simp) ?_
          refine AllReadyIn.cons rfl (fun K hK => ?_) AllReadyIn.nil
          go_simp
          gi_wp2_with (refine ⟨trivial, ?_⟩; gi_at_call 70; refine (callsIn_wide.2 HSZ.out).mono ?_; rintro e w' ⟨rfl, rfl⟩)
          refine wpAnyIn_take (i := 3) (v := ?_) rfl rfl (by kernel_rfl) (by kernel_rfl) (by kernel_rfl) (fun _ _ _ h => h) ⟨Or.inl ⟨by rfl, by intro w; go_simp; try with_reducible rfl⟩, fun _ => rfl⟩ ?_
          refine wpAnyIn_ready (rs := [4]) (by kernel_rfl) (by simp) ?_
          refine AllReadyIn.cons rfl (fun K hK => ?_) AllReadyIn.nil
          go_simp
          refine hK _ _ ?_; clear hK K
          refine wpAnyIn_take (i := 5) (v := ?_) rfl rfl (by kernel_rfl) (by kernel_rfl) (by kernel_rfl) (fun _ _ _ h => h) ⟨Or.inl ⟨by rfl, by intro w; go_simp; try with_reducible rfl⟩, fun _ => rfl⟩ ?_
          refine wpAnyIn_take (i := 6) (v := ?_) rfl rfl (by kernel_rfl) (by kernel_rfl) (by kernel_rfl) (fun _ _ _ h => h) ⟨Or.inl ⟨by rfl, by intro w; go_simp; try with_reducible rfl⟩, fun _ => rfl⟩ ?_
          refine wpAnyIn_ready (rs := [7]) (by kernel_rfl) (by simp) ?_
          refine AllReadyIn.cons rfl (fun K hK => ?_) AllReadyIn.nil
          go_simp
          refine hK _ _ ?_; clear hK K
          refine wpAnyIn_done (by kernel_rfl) ?_ _
          refine ⟨((KeepsOthers.drew W).trans (KeepsOthers.setCell _ _ _)).from _, trivial, ?_⟩
          rw [HWR.out]
          exact ((HI.out.step (drew_step W)).mark HT hsN (f s + 1)).alike HSN.out
        · go_simp
          gi_wp2_with (refine ⟨trivial, ?_⟩; gi_at_call 70; refine (callsIn_wide.2 HSZ.out).mono ?_; rintro e w' ⟨rfl, rfl⟩)
          refine wpAnyIn_ready (rs := [0]) (by kernel_rfl) (by simp) ?_
          refine AllReadyIn.cons rfl (fun K hK => ?_) AllReadyIn.nil
          go_simp
          refine hK _ _ ?_; clear hK K
          refine wpAnyIn_take (i := 3) (v := ?_) rfl rfl (by kernel_rfl) (by kernel_rfl) (by kernel_rfl) (fun _ _ _ h => h) ⟨Or.inl ⟨by rfl, by intro w; go_simp; try with_reducible rfl⟩, fun _ => rfl⟩ ?_
          refine wpAnyIn_ready (rs := [4]) (by kernel_rfl) (by simp) ?_
          refine AllReadyIn.cons rfl (fun K hK => ?_) AllReadyIn.nil
          go_simp
          refine hK _ _ ?_; clear hK K
          refine wpAnyIn_take (i := 5) (v := ?_) rfl rfl (by kernel_rfl) (by kernel_rfl) (by kernel_rfl) (fun _ _ _ h => h) ⟨Or.inl ⟨by rfl, by intro w; go_simp; try with_reducible rfl⟩, fun _ => rfl⟩ ?_
          refine wpAnyIn_take (i := 6) (v := ?_) rfl rfl (by kernel_rfl) (by kernel_rfl) (by kernel_rfl) (fun _ _ _ h => h) ⟨Or.inl ⟨by rfl, by intro w; go_simp; try with_reducible rfl⟩, fun _ => rfl⟩ ?_
          refine wpAnyIn_ready (rs := [7]) (by kernel_rfl) (by simp) ?_
          refine AllReadyIn.cons rfl (fun K hK => ?_) AllReadyIn.nil
          go_simp
          refine hK _ _ ?_; clear hK K
          refine wpAnyIn_done (by kernel_rfl) ?_ _
          refine ⟨((KeepsOthers.drew W).trans (KeepsOthers.setCell _ _ _)).from _, trivial, ?_⟩
          rw [HWR.out]
          exact ((HI.out.step (drew_step W)).mark HT hsN (f s + 1)).alike HSN.out
    case done =>
      rintro D ys W hD rfl hI hK
      have p5 := hI.p5
      have hDw : w.heap.size ≤ D := by omega
      have HI := Lib.hid hI
      clear hI hinv0 hbox hsz
      gi_wp2
      refine ⟨by simp, .inl ⟨_, _, rfl, run_takeDeferred hK, ?_⟩⟩
      refine ⟨_, results_tmp2 rfl _ _ _, ?_⟩
      rw [HV.out, HCO.out]
      have hN' := HNM.out
      have hrow : (W.putObj D (.deferred none)).rowIs (b + 1) 2 (cntList (tblAt zss zss.length) m).length (fun i => .int .i64 (nth (cntList (tblAt zss zss.length) m) i)) := by
        rw [cntList_len, ← hN']
        refine (rowIs_kept HI.out.row (grownBy_putObj' W D (.deferred none)) (fun r e => by cases e; exact ⟨_, hK, rfl⟩)).congr fun i hi => ?_
        rw [cntList_nth _ (by omega), cnt_same m7, cntR_congr HQ.out]
      have ho := own_of_row hrow (by rw [cntList_len]; unfold maxLen; omega)
      rw [cntList_len, ← hN'] at ho
      exact ⟨⟨_, rfl, ho.mono (by omega)⟩, HI.out.bel.grown (grownBy_putObj' _ D _) HI.out.bel.size (fun k e => by cases e; omega)⟩
    case stop =>
      intro D c pre W _ _ hh _
      exact hh.elim
end Go.Proofs.YteifllengcacbaaDoor
