/- The walk of 'laws.FnOpens'. -/
import Derived.Test.YteifllengcacbaaDoorFgb
import Derived.Deep.RegionHeld3
import Derived.BigQuiet
namespace Go.Proofs.YteifllengcacbaaDoor
open Go.ChangeShapes Go.WideShapes Go.ChangeAt Go.RowKit Go.Deep Go.Joins
set_option linter.unusedVariables false
namespace Opens

theorem inside_is {m x : Nat} {g : List Int} (h7 : m ≤ 7) (hx : x < 2 ^ m) (hg : IsGrp (m : Int) g) : tell (∀ z ∈ g, z ∈ listOf x) = (bitsOf g &&& x == bitsOf g) := by
  have h1 := inside_iff hg (grp_list h7 hx)
  rw [bits_list x (by have := pow_128 h7; omega)] at h1
  by_cases h : ∀ z ∈ g, z ∈ listOf x
  · rw [tell_true h, eq_comm, beq_iff_eq]; exact sub_iff.2 (h1.1 h)
  · rw [tell_false h, eq_comm, beq_eq_false_iff_ne]; exact fun e => h (h1.2 (sub_iff.1 e))
theorem within_is {m x y : Nat} (h7 : m ≤ 7) (hx : x < 2 ^ m) (hy : y < 2 ^ m) : tell (∀ z ∈ listOf x, z ∈ listOf y) = tell (Inb x y) := by
  have h1 := inside_iff (grp_list h7 hx) (grp_list h7 hy)
  have h128 := pow_128 h7
  rw [bits_list x (by omega), bits_list y (by omega)] at h1
  exact tell_congr h1
/-- One of the first k has a property. -/
noncomputable def someTo (P : Nat → Prop) (k : Nat) : Bool := tell (∃ i, i < k ∧ P i)
theorem someTo_zero (P : Nat → Prop) : someTo P 0 = false := tell_false (fun ⟨i, h, _⟩ => absurd h (Nat.not_lt_zero _))
theorem someTo_more {P : Nat → Prop} {k : Nat} (h : someTo P k = true) : someTo P (k + 1) = true := by
  obtain ⟨i, h1, h2⟩ := of_tell h
  exact tell_true ⟨i, by omega, h2⟩
theorem someTo_next {P : Nat → Prop} {k : Nat} (h : someTo P k = false) : someTo P (k + 1) = tell (P k) := by
  by_cases hp : P k
  · rw [tell_true hp]; exact tell_true ⟨k, by omega, hp⟩
  · rw [tell_false hp]
    refine tell_false (fun ⟨i, h1, h2⟩ => ?_)
    by_cases e : i = k
    · subst e; exact hp h2
    · exact of_tell_false h ⟨i, by omega, h2⟩
theorem tbl_skip {zss : List (List Int)} {k x : Nat} (h : tblAt zss k x = true) : tblAt zss (k + 1) x = true := by rw [tblAt_succ, h]; rfl
theorem tbl_next {zss : List (List Int)} {k x : Nat} (h : tblAt zss k x = false) : tblAt zss (k + 1) x = (bitsOf (nthL zss k) &&& x == bitsOf (nthL zss k)) := by rw [tblAt_succ, h]; rfl
theorem at_mem {z : List (List Int)} {i : Nat} (h : i < z.length) : nthL z i ∈ z := by rw [nthL_lt h]; exact List.getElem_mem _
theorem one_row (w : World) (base : Nat) (h : Int) (hb : base ≤ w.heap.size) : (w.alloc (.cells #[.int .i64 h] 2)).ownsRow base 2 1 (.slice (some ⟨w.heap.size, 0, none⟩) 1 1) 1 [.int .i64 h] :=
  ⟨by simp, .inr ⟨w.heap.size, 1, #[.int .i64 h], rfl, hb, World.alloc_heap_new w _, Nat.le_refl _, by unfold maxLen; omega, rfl, by simp⟩⟩
theorem add_others {m x h : Nat} (hx : x < 2 ^ m) (hh : h < m) : addOne x h < 2 ^ m := addOne_lt hx hh
theorem cons_bits {m x h : Nat} (h7 : m ≤ 7) (hx : x < 2 ^ m) : bitsOf ((h : Int) :: listOf x) = addOne x h := eq_of_bits fun i => by
  rw [bits_mem (fun z hz => by
    rcases List.mem_cons.1 hz with rfl | h'
    · omega
    · exact (grp_mem (grp_list h7 hx) z h').1) i]
  have h1 := bits_has (grp_list h7 hx) i
  rw [bits_list x (by have := pow_128 h7; omega)] at h1
  unfold addOne
  rw [Nat.testBit_or, Bool.or_eq_true, Nat.testBit_two_pow, decide_eq_true_eq, List.mem_cons, h1]
  constructor
  · rintro (q | q)
    · exact .inr (by omega)
    · exact .inl q
  · rintro (q | q)
    · exact .inr q
    · exact .inl (by omega)
theorem others_cons {m x h : Nat} (h7 : m ≤ 7) (hx : x < 2 ^ m) (hh : h < m) (g cap : Nat) (w : World) (hr : Ints w (some ⟨g, 0, none⟩) ((h : Int) :: listOf x)) :
    Calls Tryd.prog 21 #[.slice (some ⟨g, 0, none⟩) (1 + (listOf x).length) cap, .int .i64 (m : Nat)] w (GivesInts w (listOf (2 ^ m - 1 - addOne x h))) := by
  have h9 := a2Others_any (some ⟨g, 0, none⟩) ((h : Int) :: listOf x) cap m w hr h7 (by have h7 : (listOf x).length ≤ 7 := listTo_len x 7; simp; omega) (fun z hz => by
    rcases List.mem_cons.1 hz with rfl | h'
    · omega
    · exact grp_mem (grp_list h7 hx) z h')
  rw [cons_bits h7 hx, List.length_cons, show (listOf x).length + 1 = 1 + (listOf x).length from Nat.add_comm _ _] at h9
  exact h9
theorem others_one {m h : Nat} (h7 : m ≤ 7) (hh : h < m) (g cap : Nat) (w : World) (hr : Ints w (some ⟨g, 0, none⟩) [(h : Int)]) :
    Calls Tryd.prog 21 #[.slice (some ⟨g, 0, none⟩) 1 cap, .int .i64 (m : Nat)] w (GivesInts w (listOf (2 ^ m - 1 - addOne 0 h))) := by
  have h9 := others_cons (x := 0) h7 (Nat.pow_pos (by decide)) hh g cap w (by rw [listOf_0]; exact hr)
  rw [show 1 + (listOf 0).length = 1 by rw [listOf_0]; rfl] at h9
  exact h9
theorem run_append_zero {P : Program} (w : World) (t ty e : TypeId) (i : TypeInfo) (ht : P.underlying t = some (.slice e)) (hi : P.info? e = some i) (g n cap : Nat) (xa : Option Addr) (c : Nat) (hcap : n ≤ cap) :
    (Builtin.append_ #[t, t] ty #[.slice (some ⟨g, 0, none⟩) n cap, .slice xa 0 c]).run P w = .ok (.slice (some ⟨g, 0, none⟩) n cap) w := by
  cases xa <;> simp [Builtin.append_, run_underlying ht, sizeOf, typeInfo, hi, Builtin.lenOf, Builtin.firstCells, loadCells, loadCellsFrom, storeCells, hcap]
theorem step_append_zero {P : Program} (w : World) {ops : Array Oper} {o : Oper} {a : Act} {K : Act → World → Prop} {Q : Exit → Act → World → Prop} {E : Prop} (hgd : o.guard = none) (s x : Operand) (t : TypeId)
    (ho : o.op = .call { callee := .builtin .append, args := #[s, x], argTypes := #[t, t] }) (e : TypeId) (i : TypeInfo) (ht : P.underlying t = some (.slice e)) (hi : P.info? e = some i)
    (g n cap : Nat) (xa : Option Addr) (c : Nat) (hcap : n ≤ cap) (hs : a.eval s = .slice (some ⟨g, 0, none⟩) n cap) (hx : a.eval x = .slice xa 0 c) (h : K (a.put o.dst (.slice (some ⟨g, 0, none⟩) n cap)) w) :
    if Region.wanted o (yielded ops a.tmps) = true then Oper.wp P o a w K Q else E := by
  have hw : Region.wanted o (yielded ops a.tmps) = true := by simp [Region.wanted, hgd]
  rw [if_pos hw]
  have hr := run_append_zero (P := P) w t o.type e i ht hi g n cap xa c hcap
  unfold Oper.wp execOp
  simp only [ho, resolve, invoke, builtin, Sem.run_bind, Sem.run_pure, Result.andThen_ok, List.map_toArray, List.map_cons, List.map_nil, hs, hx, hr]
  exact h
set_option maxRecDepth 100000 in
set_option maxHeartbeats 8000000 in
theorem law (a0 : Option Addr) (z0 : List Int) (c0 : Nat) (a1 : Option Addr) (z1 : List Int) (c1 : Nat) (w : World) (hr0 : Bytes w a0 z0) (hl0 : z0.length ≤ 9223372036854775807) (hr1 : Bytes w a1 z1) (hl1 : z1.length ≤ 9223372036854775807) :
    Calls Tryd.prog 3 #[.slice a0 z0.length c0, .slice a1 z1.length c1] w fun e w' => e = .returned (.bool true) ∧ Below w.heap.size w w' := by
  have R0 := Lib.hid hr0
  have R1 := Lib.hid hr1
  clear hr0 hr1
  by_cases hlong : 3000 < z0.length ∨ 3000 < z1.length
  · have HT := Lib.hid (tell_true hlong)
    clear hlong
    go_enter Tryd.func3, Tryd.ntmps3
    go_wp2_with fail
    refine (a2Long_any a0 a1 z0 z1 c0 c1 w).mono ?_
    rintro e w' ⟨rfl, rfl⟩
    rw [HT.out]
    go_wp2_with fail
    go_ret
    exact ⟨rfl, Below.refl _ _⟩
  have HT := Lib.hid (tell_false hlong)
  have s0 : z0.length ≤ 3000 := by omega
  have s1 : z1.length ≤ 3000 := by omega
  clear hlong
  obtain ⟨i0, hi, hz0, hz1, hz2⟩ := info_parts Tryd.infoInt64
  go_enter Tryd.func3, Tryd.ntmps3
  go_wp2_with fail
  refine (a2Long_any a0 a1 z0 z1 c0 c1 w).mono ?_
  rintro e w' ⟨rfl, rfl⟩
  rw [HT.out]
  have HBW := Lib.hid (Below.refl w.heap.size w)
  go_wp2_with fail
  refine (A2Family_any a0 z0 c0 w R0.out s0).mono ?_
  rintro e w1 ⟨⟨m, m1, m5, ⟨fa, fz, fc, rfl, hok, hr⟩⟩, hb⟩
  replace R0 := Lib.hid (R0.out.step hb)
  replace R1 := Lib.hid (R1.out.step hb)
  replace HBW := Lib.hid (chain HBW.out hb)
  have HOF := Lib.hid hok
  have HRF := Lib.hid hr
  clear hb hok hr
  have m7 : m ≤ 7 := by omega
  have hba := al_b w1 (.cells #[.int .i64 (m : Nat), .slice fa fz.length fc] 26)
  have hx : Boxes (w1.alloc (.cells #[.int .i64 (m : Nat), .slice fa fz.length fc] 26)) w1.heap.size 26 #[.int .i64 (m : Nat), .slice fa fz.length fc] := World.alloc_heap_new _ _
  go_wp2_with fail
  replace R0 := Lib.hid (R0.out.step hba)
  replace R1 := Lib.hid (R1.out.step hba)
  replace HRF := Lib.hid (HRF.out.step hba)
  replace HBW := Lib.hid (chain HBW.out hba)
  have HXF := Lib.hid hx
  clear hba hx
  generalize w1.alloc (.cells #[.int .i64 (m : Nat), .slice fa fz.length fc] 26) = w2 at *
  generalize w1.heap.size = Fo at *
  have aF0 := HXF.out.c0
  have aF1 := HXF.out.c1
  have aFl := HXF.out.lt
  refine (A2Group_any a1 z1 c1 m w2 R1.out s1 m7).mono ?_
  rintro e w3 ⟨⟨x, xa, xc, hx, rfl, hi2⟩, hb⟩
  clear aF0 aF1 aFl
  replace R0 := Lib.hid (R0.out.step hb)
  replace R1 := Lib.hid (R1.out.step hb)
  replace HRF := Lib.hid (HRF.out.step hb)
  replace HXF := Lib.hid (HXF.out.step hb)
  replace HBW := Lib.hid (chain HBW.out hb)
  have HX := Lib.hid hx
  have HI := Lib.hid hi2
  clear hb hx hi2
  obtain ⟨bb, hbb⟩ : ∃ b, tblAt fz fz.length x = b := ⟨_, rfl⟩
  have HBB := Lib.hid hbb
  clear hbb
  have aF0 := HXF.out.c0
  have aF1 := HXF.out.c1
  have aFl := HXF.out.lt
  go_wp2_with fail
  refine (mayX fa fz fc xa xc w3 m7 HX.out HOF.out HRF.out HI.out).mono ?_
  rintro e w4 ⟨rfl, hb⟩
  clear aF0 aF1 aFl
  replace R0 := Lib.hid (R0.out.step hb)
  replace R1 := Lib.hid (R1.out.step hb)
  replace HRF := Lib.hid (HRF.out.step hb)
  replace HXF := Lib.hid (HXF.out.step hb)
  replace HI := Lib.hid (HI.out.step hb)
  replace HBW := Lib.hid (chain HBW.out hb)
  clear hb
  rw [HBB.out]
  have aF0 := HXF.out.c0
  have aF1 := HXF.out.c1
  have aFl := HXF.out.lt
  go_wp2_with fail
  refine (blockedG fa fz fc w4 m7 HOF.out HRF.out).mono ?_
  rintro e w5 ⟨⟨ba, bz, bc, rfl, hmem, hlen, hr⟩, hb⟩
  clear aF0 aF1 aFl
  replace R0 := Lib.hid (R0.out.step hb)
  replace R1 := Lib.hid (R1.out.step hb)
  replace HRF := Lib.hid (HRF.out.step hb)
  replace HXF := Lib.hid (HXF.out.step hb)
  replace HI := Lib.hid (HI.out.step hb)
  replace HBW := Lib.hid (chain HBW.out hb)
  have HMB := Lib.hid hmem
  have HRB := Lib.hid hr
  clear hb hmem hr
  have blen : bz.length ≤ 128 := hlen
  have aF0 := HXF.out.c0
  have aF1 := HXF.out.c1
  have aFl := HXF.out.lt
  go_wp2_with fail
  refine (openingG fa fz fc w5 m7 HOF.out HRF.out).mono ?_
  rintro e w6 ⟨⟨aa, az, ac, rfl, hmem, hlen2, hr⟩, hb⟩
  clear aF0 aF1 aFl
  replace R0 := Lib.hid (R0.out.step hb)
  replace R1 := Lib.hid (R1.out.step hb)
  replace HRF := Lib.hid (HRF.out.step hb)
  replace HXF := Lib.hid (HXF.out.step hb)
  replace HI := Lib.hid (HI.out.step hb)
  replace HRB := Lib.hid (HRB.out.step hb)
  replace HBW := Lib.hid (chain HBW.out hb)
  have HMA := Lib.hid hmem
  have HRA := Lib.hid hr
  clear hb hmem hr
  have alen : az.length ≤ 128 := hlen2
  have aF0 := HXF.out.c0
  have aF1 := HXF.out.c1
  have aFl := HXF.out.lt
  go_wp2_with fail
  have HFL := Lib.hid (fam_small m7 HOF.out)
  have flen : fz.length ≤ 1048576 := HFL.out.1
  have hrf := HRF.out
  have HXL := Lib.hid (show (listOf x).length ≤ 7 from listTo_len x 7)
  go_loop [13, 14] (fun v i => ∃ j, j ≤ fz.length ∧ i = .int .i64 (j : Nat) ∧ v = .bool (tblAt fz j x)) (fun _ i => fz.length - (intOf i).toNat)
  case atStart => exact ⟨0, Nat.zero_le _, rfl, by rw [tblAt_zero]⟩
  case round =>
    obtain ⟨j, hj, rfl, rfl⟩ := hrel
    by_cases hlt : j < fz.length
    · have hi0 : (j : Int) < (fz.length : Int) := by omega
      cases hb1 : tblAt fz j x with
      | true =>
        have HN := Lib.hid (tbl_skip hb1)
        clear hb1
        go_wp2_with fail
        go_round
        case rel => exact ⟨j + 1, by omega, by go_num, by rw [HN.out]⟩
        case measure => simp [intOf]; omega
      | false =>
        have HN := Lib.hid (tbl_next hb1)
        clear hb1
        rcases hrf with h0 | ⟨b2, o2, hab, hc⟩
        · rw [h0] at hlt; exact absurd hlt (Nat.not_lt_zero _)
        obtain ⟨ai, ci, hcell, hin⟩ := hc j hlt
        have hcl := World.block_lt_of_cell? _ _ hcell
        have HIN := Lib.hid hin
        have hgl : (nthL fz j).length ≤ 1048576 := HFL.out.2 j hlt
        clear hc hin
        rw [hab] at aF1
        clear hab
        go_wp2_with fail
        refine (a2Inside_any ai xa (nthL fz j) (listOf x) ci xc w6 HIN.out HI.out (by omega) (by have := HXL.out; omega)).mono ?_
        rintro e w' ⟨rfl, rfl⟩
        rw [inside_is m7 HX.out (HOF.out.2.1 j hlt).1, ← HN.out]
        go_wp2_with fail
        go_round
        case rel => exact ⟨j + 1, by omega, by go_num, rfl⟩
        case measure => simp [intOf]; omega
    · have hi0 : ¬ (j : Int) < (fz.length : Int) := by omega
      have hE : j = fz.length := by omega
      subst hE
      rw [HBB.out]
      clear hrf
      go_wp2_with fail
      clear aF0 aF1 aFl
      go_loopw [15, 16, 17, 18] (fun v i o f wi => ∃ j, j ≤ bz.length ∧ i = .int .i64 (j : Nat) ∧ v = .bool (someTo (fun i => Inb x (bitsOf (nthL bz i))) j) ∧ Below w6.heap.size w6 wi)
        (fun _ i _ _ _ => bz.length - (intOf i).toNat)
      case atStart => exact ⟨0, Nat.zero_le _, rfl, by rw [someTo_zero], Below.refl _ _⟩
      case round =>
        obtain ⟨j, hj, rfl, rfl, hb⟩ := hrel
        have HBI := Lib.hid hb
        have hxf := HXF.out.step hb
        have aF0 := hxf.c0
        have aF1 := hxf.c1
        have aFl := hxf.lt
        have HRFI := Lib.hid (HRF.out.step hb)
        have HII := Lib.hid (HI.out.step hb)
        have hrb := HRB.out.step hb
        clear hxf hb
        by_cases hlt : j < bz.length
        · have hi0 : (j : Int) < (bz.length : Int) := by omega
          rcases hrb with h0 | ⟨b2, o2, hab, hc⟩
          · rw [h0] at hlt; exact absurd hlt (Nat.not_lt_zero _)
          obtain ⟨ai, ci, hcell, hin⟩ := hc j hlt
          have hcl := World.block_lt_of_cell? _ _ hcell
          obtain ⟨y, hy, hmost, hye⟩ := (HMB.out (nthL bz j)).1 (at_mem hlt)
          have HPJ := Lib.hid (show Inb x (bitsOf (nthL bz j)) ↔ Inb x y by rw [hye, bits_list y (by have := pow_128 m7; omega)])
          rw [hye] at hcell hin
          have HY := Lib.hid hy
          have HTY := Lib.hid (most_iff.1 hmost).1
          have HIN := Lib.hid hin
          have HYL := Lib.hid (show (listOf y).length ≤ 7 from listTo_len y 7)
          clear hc hin hmost hye hy
          subst hab
          go_wp2_with fail
          have MK := Lib.hid (show ∀ w' : World, Below wr.heap.size wr w' → Below wr.heap.size wr w' ∧ w'.cell? ⟨Fo, 0, none⟩ = some (.int .i64 (m : Nat)) ∧ w'.cell? ⟨Fo, 1, none⟩ = some (.slice fa fz.length fc) ∧ w'.cell? ⟨b2, o2 + j, none⟩ = some (.slice ai (listOf y).length ci) from fun w' hw => ⟨hw, cell_step hw aF0, cell_step hw aF1, cell_step hw hcell⟩)
          go_region_held3 (fun w' => Below wr.heap.size wr w' ∧ w'.cell? ⟨Fo, 0, none⟩ = some (.int .i64 (m : Nat)) ∧ w'.cell? ⟨Fo, 1, none⟩ = some (.slice fa fz.length fc) ∧ w'.cell? ⟨b2, o2 + j, none⟩ = some (.slice ai (listOf y).length ci)) (first | exact MK.out _ (drew_step _) | exact MK.out _ (chain (‹Below wr.heap.size wr _ ∧ _›).1 hb) | fail) (first | (go_at_call 14; have KK := (‹Below wr.heap.size wr _ ∧ _›).1; refine (mayX fa fz fc _ _ _ m7 HY.out HOF.out (HRFI.out.step KK) (HIN.out.step KK)).mono ?_; rintro e wg ⟨rfl, hb⟩; rw [HTY.out]; clear KK))
          all_goals (
            have hb := (‹Below wr.heap.size wr wg ∧ _›).1
            have hcell2 := (‹Below wr.heap.size wr wg ∧ _ ∧ _ ∧ _›).2.2.2
            have HB9 := Lib.hid (chain HBI.out hb)
            have HI9 := Lib.hid (HII.out.step hb)
            have HN9 := Lib.hid (HIN.out.step hb)
            have hbl9 : b2 < wg.heap.size := World.block_lt_of_cell? _ _ hcell2
            clear hb
            cases hb1 : someTo (fun i => Inb x (bitsOf (nthL bz i))) j with
            | true =>
              have HN := Lib.hid (someTo_more hb1)
              clear hb1
              go_wp2_with fail
              go_roundw
              case rel => exact ⟨j + 1, by omega, by go_num, by rw [HN.out], HB9.out⟩
              case measure => simp [intOf]; omega
            | false =>
              have HN := Lib.hid ((someTo_next hb1).trans (tell_congr HPJ.out))
              clear hb1
              go_wp2_with fail
              refine (a2Inside_any xa ai (listOf x) (listOf y) xc ci wg HI9.out HN9.out (by have := HXL.out; omega) (by have := HYL.out; omega)).mono ?_
              rintro e w' ⟨rfl, rfl⟩
              rw [within_is m7 HX.out HY.out, ← HN.out]
              go_wp2_with fail
              go_roundw
              case rel => exact ⟨j + 1, by omega, by go_num, rfl, HB9.out⟩
              case measure => simp [intOf]; omega)
        · have hi0 : ¬ (j : Int) < (bz.length : Int) := by omega
          have hE : j = bz.length := by omega
          subst hE
          have HWI := Lib.hid (show someTo (fun i => Inb x (bitsOf (nthL bz i))) bz.length = !bb from by
            have hxx := HX.out
            cases hb9 : bb with
            | true =>
              refine tell_false (fun ⟨i, h1, h2⟩ => ?_)
              obtain ⟨y, hy, hmost, hye⟩ := (HMB.out (nthL bz i)).1 (at_mem h1)
              replace h2 : Inb x (bitsOf (nthL bz i)) := h2
              rw [hye, bits_list y (by have := pow_128 m7; omega)] at h2
              have h3 := tbl_mono m fz fz.length x y hxx hy h2 (by rw [HBB.out, hb9])
              rw [(most_iff.1 hmost).1] at h3
              cases h3
            | false =>
              obtain ⟨y, hy, hmost, hs⟩ := most_above (q := tblAt fz fz.length) (2 ^ m) x hxx (by omega) (by rw [HBB.out, hb9])
              have hmem := (HMB.out (listOf y)).2 ⟨y, hy, hmost, rfl⟩
              obtain ⟨i, h1, h2⟩ := List.mem_iff_getElem.1 hmem
              exact tell_true ⟨i, h1, by
                show Inb x (bitsOf (nthL bz i))
                rw [nthL_lt h1, h2, bits_list y (by have := pow_128 m7; omega)]; exact hs⟩)
          rw [HWI.out]
          have hb9 := HBI.out
          clear HII HRFI hrb aF0 aF1 aFl HBI
          replace R0 := Lib.hid (R0.out.step hb9)
          replace R1 := Lib.hid (R1.out.step hb9)
          replace HRF := Lib.hid (HRF.out.step hb9)
          replace HXF := Lib.hid (HXF.out.step hb9)
          replace HI := Lib.hid (HI.out.step hb9)
          replace HRB := Lib.hid (HRB.out.step hb9)
          replace HRA := Lib.hid (HRA.out.step hb9)
          replace HBW := Lib.hid (chain HBW.out hb9)
          clear hb9
          have aF0 := HXF.out.c0
          have aF1 := HXF.out.c1
          have aFl := HXF.out.lt
          go_wp2_with fail
          clear aF0 aF1 aFl
          obtain ⟨wo, rfl⟩ : ∃ wo : World, wo = wr := ⟨_, rfl⟩
          go_loopw [19, 20] (fun v i wi => ∃ j, j ≤ az.length ∧ i = .int .i64 (j : Nat) ∧ v = .bool (someTo (fun i => nthL az i = listOf x) j) ∧ Quiet wo wi)
            (fun _ i _ => az.length - (intOf i).toNat)
          case atStart => exact ⟨0, Nat.zero_le _, rfl, by rw [someTo_zero], Quiet.refl _⟩
          case round =>
            obtain ⟨j, hj, rfl, rfl, hq⟩ := hrel
            have HQ := Lib.hid hq
            have hra := HRA.out.quiet hq
            have HIQ := Lib.hid (HI.out.quiet hq)
            clear hq
            by_cases hlt : j < az.length
            · have hi0 : (j : Int) < (az.length : Int) := by omega
              cases hb1 : someTo (fun i => nthL az i = listOf x) j with
              | true =>
                have HN := Lib.hid (someTo_more hb1)
                clear hb1
                go_wp2_with fail
                go_roundw
                case rel => exact ⟨j + 1, by omega, by go_num, by rw [HN.out], HQ.out⟩
                case measure => simp [intOf]; omega
              | false =>
                have HN := Lib.hid (someTo_next hb1)
                clear hb1
                rcases hra with h0 | ⟨b2, o2, hab, hc⟩
                · rw [h0] at hlt; exact absurd hlt (Nat.not_lt_zero _)
                obtain ⟨ai, ci, hcell, hin⟩ := hc j hlt
                have hcl := World.block_lt_of_cell? _ _ hcell
                have HIN := Lib.hid hin
                obtain ⟨y, hy, _, hye⟩ := (HMA.out (nthL az j)).1 (at_mem hlt)
                have HYL := Lib.hid (show (nthL az j).length ≤ 7 by rw [hye]; exact listTo_len y 7)
                clear hc hin hy hye
                subst hab
                go_wp2_with fail
                refine (a2Same_any ai xa (nthL az j) (listOf x) ci xc wr HIN.out HIQ.out (by have := HYL.out; omega) (by have := HXL.out; omega)).mono ?_
                rintro e w' ⟨rfl, hq⟩
                have HQ2 := Lib.hid (HQ.out.trans hq)
                clear hq
                rw [← HN.out]
                go_wp2_with fail
                go_roundw
                case rel => exact ⟨j + 1, by omega, by go_num, rfl, HQ2.out⟩
                case measure => simp [intOf]; omega
            · have hi0 : ¬ (j : Int) < (az.length : Int) := by omega
              have hE : j = az.length := by omega
              subst hE
              have HLI := Lib.hid (show someTo (fun i => nthL az i = listOf x) az.length = bb from by
                cases hb9 : bb with
                | true =>
                  have hmem := (HMA.out (listOf x)).2 ⟨x, HX.out, by rw [HBB.out, hb9], rfl⟩
                  obtain ⟨i, h1, h2⟩ := List.mem_iff_getElem.1 hmem
                  exact tell_true ⟨i, h1, by
                    show nthL az i = listOf x
                    rw [nthL_lt h1]; exact h2⟩
                | false =>
                  refine tell_false (fun ⟨i, h1, h2⟩ => ?_)
                  obtain ⟨y, hy, ht, hye⟩ := (HMA.out (nthL az i)).1 (at_mem h1)
                  replace h2 : nthL az i = listOf x := h2
                  rw [h2] at hye
                  have h3 : x = y := by
                    have := congrArg bitsOf hye
                    have hxx := HX.out
                    have h128 := pow_128 m7
                    rw [bits_list x (by omega), bits_list y (by omega)] at this
                    exact this
                  rw [← h3, HBB.out, hb9] at ht
                  cases ht)
              rw [HLI.out]
              have hb9 := quiet_below HQ.out
              clear hra HIQ HQ
              replace R0 := Lib.hid (R0.out.step hb9)
              replace R1 := Lib.hid (R1.out.step hb9)
              replace HRF := Lib.hid (HRF.out.step hb9)
              replace HXF := Lib.hid (HXF.out.step hb9)
              replace HI := Lib.hid (HI.out.step hb9)
              replace HRB := Lib.hid (HRB.out.step hb9)
              replace HRA := Lib.hid (HRA.out.step hb9)
              replace HBW := Lib.hid (chain HBW.out hb9)
              clear hb9
              have aF0 := HXF.out.c0
              have aF1 := HXF.out.c1
              have aFl := HXF.out.lt
              go_wp2_with fail
              refine (a2At_any a0 z0 c0 0 m wr R0.out s0 (by omega) (by omega) (by omega)).mono ?_
              rintro e w' ⟨rfl, rfl⟩
              obtain ⟨h90, h91⟩ := atOf_range z0 0 (n := (m : Int)) (by omega)
              obtain ⟨h, hj9⟩ : ∃ j : Nat, atOf z0 0 (m : Int) = (j : Int) := ⟨(atOf z0 0 (m : Int)).toNat, by omega⟩
              rw [hj9] at h90 h91 ⊢
              have hhm : h < m := by omega
              clear hj9 h90 h91
              go_wp2_with fail
              refine (a2Has_any xa (listOf x) xc (h : Int) wr HI.out (by have := HXL.out; omega)).mono ?_
              rintro e w' ⟨rfl, rfl⟩
              rw [tell_in m7 HX.out h]
              cases hbit : x.testBit h with
              | true =>
                clear hbit
                go_wp2_with fail
                refine (mayX fa fz fc xa xc wr m7 HX.out HOF.out HRF.out HI.out).mono ?_
                rintro e w7 ⟨rfl, hb⟩
                clear aF0 aF1 aFl
                replace R0 := Lib.hid (R0.out.step hb)
                replace R1 := Lib.hid (R1.out.step hb)
                replace HRF := Lib.hid (HRF.out.step hb)
                replace HXF := Lib.hid (HXF.out.step hb)
                replace HI := Lib.hid (HI.out.step hb)
                replace HRB := Lib.hid (HRB.out.step hb)
                replace HRA := Lib.hid (HRA.out.step hb)
                replace HBW := Lib.hid (chain HBW.out hb)
                clear hb
                rw [HBB.out]
                clear HBB HWI HLI
                cases bb
                all_goals (
                  have aF0 := HXF.out.c0
                  have aF1 := HXF.out.c1
                  have aFl := HXF.out.lt
                  go_wp2_with fail
                  go_ret
                  exact ⟨rfl, HBW.out⟩)
              | false =>
                have HMO := Lib.hid (show bb = true → tblAt fz fz.length (addOne x h) = true from fun e => tbl_mono m fz fz.length x _ HX.out (add_others HX.out hhm) (fun i hb => by unfold addOne; rw [Nat.testBit_or, hb]; rfl) (by rw [HBB.out, e]))
                have HAD := Lib.hid (add_others HX.out hhm)
                clear hbit R0 R1 HRB HRA HMA HMB HFL HWI HLI flen blen alen HT s0 s1 hl0 hl1
                have HBD := Lib.hid (show 2 ^ m - 1 - (2 ^ m - 1 - addOne x h) = addOne x h by have := HAD.out; omega)
                have HDL := Lib.hid (show 2 ^ m - 1 - addOne x h < 2 ^ m by have := HAD.out; omega)
                have HDR := Lib.hid (drew_step wr)
                have bF0 := cell_step (drew_step wr) aF0
                have hsd := (drew_step wr).size
                have bFl : Fo < wr.drew.heap.size := by omega
                have HIL := Lib.hid (show ∀ z ∈ (h : Int) :: listOf x, 0 ≤ z ∧ z < (m : Int) from fun z hz => by
                  rcases List.mem_cons.1 hz with rfl | h'
                  · omega
                  · exact grp_mem (grp_list m7 HX.out) z h')
                by_cases hx0 : x = 0
                · subst hx0
                  have e0 : (listOf 0).length = 0 := by rw [listOf_0]; rfl
                  have hown := row_step (one_row wr wr.heap.size (h : Int) (Nat.le_refl _)) (drew_step _)
                  have HB9 := Lib.hid (chain (al_b wr (.cells #[.int .i64 (h : Int)] 2)) (drew_step _))
                  have gF0 := cell_step HB9.out aF0
                  have HI9 := Lib.hid (Ints_of_own (zs := [(h : Int)]) (show OwnI (wr.alloc (.cells #[.int .i64 (h : Int)] 2)).drew wr.heap.size (.slice (some ⟨wr.heap.size, 0, none⟩) 1 1) [(h : Int)] from hown))
                  clear hown
                  go_wp2_with fail
                  go_region_law (first
                   | (refine step_append_zero _ (by rfl) _ _ 28 (by rfl) 2 i0 Tryd.underlying28 hi wr.heap.size 1 1 xa xc (Nat.le_refl _) (by first | rfl | simp [Act.eval]) (by first | rfl | simp [Act.eval]) ?_)
                     | (go_simp; go_at_call 21; first | (refine (othersX ah ch _ m7 HDL.out HIH.out).mono ?_; rintro e wg ⟨⟨vg, rfl, hvg⟩, hbg⟩) | (refine (others_one m7 hhm wr.heap.size 1 _ HI9.out).mono ?_; rintro e wh ⟨⟨vh, rfl, hvh⟩, hbh⟩; obtain ⟨ah, ch, rfl, hih, -⟩ := hvh.ints; have HIH := Lib.hid hih; have hF0 := cell_step hbh gF0; have HBH := Lib.hid hbh; clear hvh hih hbh)))
                  all_goals (
                    rw [HBD.out] at hvg
                    obtain ⟨pa, pc, hpv⟩ := rowForm hvg
                    subst hpv
                    have HIP := Lib.hid (Ints_of_own hvg)
                    have hb9 := chain (chain HB9.out HBH.out) hbg
                    clear hvg hbg gF0 hF0 bF0 aF0 aF1 aFl hsd bFl
                    replace HRF := Lib.hid (HRF.out.step hb9)
                    replace HXF := Lib.hid (HXF.out.step hb9)
                    replace HI := Lib.hid (HI.out.step hb9)
                    replace HBW := Lib.hid (chain HBW.out hb9)
                    clear hb9 HBH HB9 HDR HIH HI9
                    have aF0 := HXF.out.c0
                    have aF1 := HXF.out.c1
                    have aFl := HXF.out.lt
                    go_wp2_with fail
                    refine (mayX fa fz fc pa pc wg m7 HAD.out HOF.out HRF.out HIP.out).mono ?_
                    rintro e w7 ⟨rfl, hb⟩
                    clear aF0 aF1 aFl
                    replace HRF := Lib.hid (HRF.out.step hb)
                    replace HXF := Lib.hid (HXF.out.step hb)
                    replace HI := Lib.hid (HI.out.step hb)
                    replace HIP := Lib.hid (HIP.out.step hb)
                    replace HBW := Lib.hid (chain HBW.out hb)
                    clear hb
                    have hm9 := HMO.out
                    generalize tblAt fz fz.length (addOne 0 h) = st at *
                    clear HBB HMO
                    cases bb with
                    | true =>
                      obtain rfl : st = true := hm9 rfl
                      have aF0 := HXF.out.c0
                      have aF1 := HXF.out.c1
                      have aFl := HXF.out.lt
                      go_wp2_with fail
                      go_ret
                      exact ⟨rfl, HBW.out⟩
                    | false =>
                      clear hm9
                      have aF0 := HXF.out.c0
                      have aF1 := HXF.out.c1
                      have aFl := HXF.out.lt
                      go_wp2_with fail
                      go_ret
                      exact ⟨rfl, HBW.out⟩)
                · have hlx : 0 < (listOf x).length := by
                    rcases Nat.eq_zero_or_pos (listOf x).length with q | q
                    · have e : listOf x = [] := List.length_eq_zero_iff.1 q
                      have h8 := bits_list x (by have := HX.out; have := pow_128 m7; omega)
                      rw [e] at h8
                      exact absurd h8.symm hx0
                    · exact q
                  have hxl := HXL.out
                  rcases HI.out with h0 | ⟨b2, o2, hab, hc⟩
                  · rw [h0] at hlx; exact absurd hlx (Nat.not_lt_zero _)
                  subst hab
                  have HC := Lib.hid hc
                  have HOWB := Lib.hid (show (wr.alloc (.cells #[.int .i64 (h : Int)] 2)).drew.ownsRow wr.heap.size 2 1 (.slice (some ⟨wr.heap.size, 0, none⟩) 1 1) 1 [.int .i64 (h : Int)] from row_step (one_row wr wr.heap.size (h : Int) (Nat.le_refl _)) (drew_step _))
                  have HNW := Lib.hid (show ∀ (j : Nat) (u : Value), (vals (listOf x))[j]? = some u → (wr.alloc (.cells #[.int .i64 (h : Int)] 2)).drew.cell? ((⟨b2, o2, none⟩ : Addr).add j) = some u from fun j u hu => by
                    have hj : j < (listOf x).length := by
                      have := (List.getElem?_eq_some_iff.1 hu).1
                      simpa [vals] using this
                    have h7 := HC.out j hj
                    have h8 := cell_step (chain (al_b wr (.cells #[.int .i64 (h : Int)] 2)) (drew_step _)) h7
                    rw [add_plain]
                    rw [h8, ← hu, nth_lt hj]
                    simp [vals, hj])
                  clear hc
                  go_wp2_with fail
                  go_region_law (first
                    | (go_simp; go_at_call 21; first | (refine (othersX ah ch _ m7 HDL.out HIH.out).mono ?_; rintro e wg ⟨⟨vg, rfl, hvg⟩, hbg⟩) | (refine (others_cons m7 HX.out hhm g9 cap9 _ HI9.out).mono ?_; rintro e wh ⟨⟨vh, rfl, hvh⟩, hbh⟩; obtain ⟨ah, ch, rfl, hih, -⟩ := hvh.ints; have HIH := Lib.hid hih; have hF0 := cell_step hbh gF0; have HBH := Lib.hid hbh; clear hvh hih hbh))
                    | (refine step_append_lies _ (by rfl) _ _ 28 (by rfl) wr.heap.size 2 i0 (.int .i64 0) 1 8 Tryd.underlying28 hi hz0 hz1 hz2 (by rfl) (by decide) (.slice (some ⟨wr.heap.size, 0, none⟩) 1 1) 1 [.int .i64 (h : Int)] (by first | rfl | simp [Act.eval]) HOWB.out ⟨b2, o2, none⟩ (listOf x).length xc (vals (listOf x)) (by first | rfl | simp [Act.eval]) (by simp [vals]) HNW.out (by intro u hu; simp [vals] at hu; obtain ⟨z, _, rfl⟩ := hu; rfl) hlx (by unfold maxLen; omega) (by omega) (by simp <;> omega) _ rfl ?_; intro g9 cap9 w9 hown9 hgrow9 hat9 hlt9; have HB9 := Lib.hid ((chain (al_b wr (.cells #[.int .i64 (h : Int)] 2)) (drew_step _)).grown hgrow9 (by simp <;> omega) (fun q hq => by simp [Value.ownBlock] at hq; omega)); have gF0 := cell_step HB9.out aF0; have HI9 := Lib.hid (Ints_of_own (zs := (h : Int) :: listOf x) (show OwnI w9 wr.heap.size (.slice (some ⟨g9, 0, none⟩) (1 + (listOf x).length) cap9) ((h : Int) :: listOf x) from by unfold OwnI; rw [List.length_cons, Nat.add_comm (listOf x).length 1]; exact hown9)); clear hown9 hgrow9 hat9 hlt9))
                  all_goals (
                    rw [HBD.out] at hvg
                    obtain ⟨pa, pc, hpv⟩ := rowForm hvg
                    subst hpv
                    have HIP := Lib.hid (Ints_of_own hvg)
                    have hb9 := chain (chain HB9.out HBH.out) hbg
                    clear hvg hbg gF0 hF0 bF0 aF0 aF1 aFl hsd bFl
                    replace HRF := Lib.hid (HRF.out.step hb9)
                    replace HXF := Lib.hid (HXF.out.step hb9)
                    replace HI := Lib.hid (HI.out.step hb9)
                    replace HBW := Lib.hid (chain HBW.out hb9)
                    clear hb9 HBH HB9 HDR HIH HI9
                    have aF0 := HXF.out.c0
                    have aF1 := HXF.out.c1
                    have aFl := HXF.out.lt
                    go_wp2_with fail
                    refine (mayX fa fz fc pa pc wg m7 HAD.out HOF.out HRF.out HIP.out).mono ?_
                    rintro e w7 ⟨rfl, hb⟩
                    clear aF0 aF1 aFl
                    replace HRF := Lib.hid (HRF.out.step hb)
                    replace HXF := Lib.hid (HXF.out.step hb)
                    replace HI := Lib.hid (HI.out.step hb)
                    replace HIP := Lib.hid (HIP.out.step hb)
                    replace HBW := Lib.hid (chain HBW.out hb)
                    clear hb
                    have hm9 := HMO.out
                    generalize tblAt fz fz.length (addOne x h) = st at *
                    clear HBB HMO
                    cases bb with
                    | true =>
                      obtain rfl : st = true := hm9 rfl
                      have aF0 := HXF.out.c0
                      have aF1 := HXF.out.c1
                      have aFl := HXF.out.lt
                      go_wp2_with fail
                      go_ret
                      exact ⟨rfl, HBW.out⟩
                    | false =>
                      clear hm9
                      have aF0 := HXF.out.c0
                      have aF1 := HXF.out.c1
                      have aFl := HXF.out.lt
                      go_wp2_with fail
                      go_ret
                      exact ⟨rfl, HBW.out⟩)

end Opens
end Go.Proofs.YteifllengcacbaaDoor
