/- The model's sorting of groups: l01Sorted. -/
import Derived.Test.YtnebkhelobpkpaaDoorLex
namespace Go.Proofs.YtnebkhelobpkpaaDoor
open Go.RowKit Go.Deep Go.Shelf
set_option linter.unusedVariables false

/-- Rows that a call has made, each beside its numbers. -/
def PairsIn (W : World) (base : Nat) (ps : List (Value × List Int)) : Prop := ∀ q ∈ ps, OwnI W base q.1 q.2
theorem PairsIn.map {W W' : World} {base : Nat} {ps : List (Value × List Int)} (h : PairsIn W base ps) (hk : ∀ u zs, OwnI W base u zs → OwnI W' base u zs) : PairsIn W' base ps := fun q hq => hk _ _ (h q hq)
theorem PairsIn.step {W W' : World} {base : Nat} {ps : List (Value × List Int)} (h : PairsIn W base ps) (hb : Below W.heap.size W W') : PairsIn W' base ps := h.map fun _ _ k => k.step hb

/-- What the sorting gives. -/
structure Sorted1 (w : World) (base g cap : Nat) (ps : List (Value × List Int)) (e : Ending) (w' : World) : Prop where
  val : e = .returned (.slice (some ⟨g, 0, none⟩) ps.length cap)
  row : w'.ownsRow base 26 1 (.slice (some ⟨g, 0, none⟩) ps.length cap) ps.length ((sortFrom ltP (ps.length - 1) 1 ps).map Prod.fst)
  ins : PairsIn w' base (sortFrom ltP (ps.length - 1) 1 ps)
  below : Below base w w'

theorem bubble_len {α : Type} (lt : α → α → Bool) : ∀ (k : Nat) (l : List α), (bubble lt k l).length = l.length
  | 0, l => rfl
  | k + 1, l => by
    rw [bubble]
    split
    · split
      · rw [bubble_len lt k]; simp
      · rfl
    · rfl

theorem swap_step {W : World} {base g cap n : Nat} {rs ts : List (Value × List Int)} {xs : List Value} (hrow : W.ownsRow base 26 1 (.slice (some ⟨g, 0, none⟩) n cap) n xs) (hin : PairsIn W base rs) (hm : ∀ q ∈ ts, q ∈ rs) (j i : Nat) (v0 v1 : Value) :
    ((W.setCell ⟨g, j, none⟩ v0).setCell ⟨g, i, none⟩ v1).ownsRow base 26 1 (.slice (some ⟨g, 0, none⟩) n cap) n ((xs.set j v0).set i v1) ∧
      PairsIn ((W.setCell ⟨g, j, none⟩ v0).setCell ⟨g, i, none⟩ v1) base ts ∧ Below base W ((W.setCell ⟨g, j, none⟩ v0).setCell ⟨g, i, none⟩ v1) := by
  have hgb : base ≤ g := (hrow.lt g rfl).1
  have hgl : g < W.heap.size := (hrow.lt g rfl).2
  obtain ⟨a1, a2⟩ := hrow.stored j v0
  obtain ⟨b1, b2⟩ := a1.stored i v1
  refine ⟨b1, fun q hq => ?_, ((Below.refl _ _).setCell hgb _).setCell hgb _⟩
  have h0 := hin q (hm q hq)
  have h1 := World.ownsRow.kept h0 a2 (rows_apart h0 hrow (by decide))
  exact World.ownsRow.kept h1 b2 (rows_apart h1 a1 (by decide))

set_option maxHeartbeats 1000000 in
set_option maxRecDepth 100000 in
theorem l01Sorted_any (g cap base : Nat) (ps : List (Value × List Int)) (w : World) (hrow : w.ownsRow base 26 1 (.slice (some ⟨g, 0, none⟩) ps.length cap) ps.length (ps.map Prod.fst)) (hin : PairsIn w base ps) (hlen : ps.length ≤ 128) :
    Calls Tryd.prog 122 #[.slice (some ⟨g, 0, none⟩) ps.length cap] w (Sorted1 w base g cap ps) := by
  have hgb : base ≤ g := (hrow.lt g rfl).1
  have hbw : base ≤ w.heap.size := Nat.le_of_lt (Nat.lt_of_le_of_lt hgb (hrow.lt g rfl).2)
  obtain ⟨n, hn⟩ : ∃ n, ps.length = n := ⟨_, rfl⟩
  have HN := Lib.hid hn
  have HR0 := Lib.hid hrow
  have HI0 := Lib.hid hin
  clear hrow hin
  rw [hn] at hlen ⊢
  clear hn
  go_enter Tryd.func122, Tryd.ntmps122
  go_wp2_with fail
  go_loopw [3] (fun i wr => ∃ (k : Nat) (qs : List (Value × List Int)), 1 ≤ k ∧ (k ≤ n ∨ n = 0) ∧ i = .int .i64 k ∧ qs.length = n ∧ sortFrom ltP (n - k) k qs = sortFrom ltP (ps.length - 1) 1 ps ∧ wr.ownsRow base 26 1 (.slice (some ⟨g, 0, none⟩) n cap) n (qs.map Prod.fst) ∧ PairsIn wr base qs ∧ Below base w wr)
    (fun i _ => n - (intOf i).toNat)
  case atStart => exact ⟨1, ps, by omega, by omega, rfl, HN.out, by rw [HN.out], by have := HR0.out; rw [HN.out] at this; exact this, HI0.out, Below.refl _ _⟩
  case round =>
    obtain ⟨k, qs, hk1, hkn, rfl, hq, hsort, hrow, hin, hbel⟩ := hrel
    have HQ := Lib.hid hq
    have HS := Lib.hid hsort
    have HR := Lib.hid hrow
    have HI := Lib.hid hin
    have HB := Lib.hid hbel
    clear hq hsort hrow hin hbel
    by_cases hlt : k < n
    · obtain ⟨wo, rfl⟩ : ∃ wo : World, wo = wr := ⟨_, rfl⟩
      go_wp2_with fail
      go_loopw [4] (fun i wr2 => ∃ (j : Nat) (rs : List (Value × List Int)), j ≤ k ∧ i = .int .i64 j ∧ rs.length = n ∧ bubble ltP j rs = bubble ltP k qs ∧ wr2.ownsRow base 26 1 (.slice (some ⟨g, 0, none⟩) n cap) n (rs.map Prod.fst) ∧ PairsIn wr2 base rs ∧ Below base w wr2)
        (fun i _ => (intOf i).toNat)
      case atStart => exact ⟨k, qs, Nat.le_refl _, rfl, HQ.out, rfl, HR.out, HI.out, HB.out⟩
      case round =>
        obtain ⟨j, rs, hj, rfl, hq2, hbub, hrow, hin, hbel⟩ := hrel
        have HQ2 := Lib.hid hq2
        have HBU := Lib.hid hbub
        have HR2 := Lib.hid hrow
        have HI2 := Lib.hid hin
        have HB2 := Lib.hid hbel
        by_cases hj0 : j = 0
        · have hd : decide (0 < j) = false := by simp; omega
          have HJ := Lib.hid hj0
          clear hj0 hq2 hbub hrow hin hbel
          go_wp2
          go_quiet (fail)
          go_wp2
          go_roundw
          case rel =>
            refine ⟨k + 1, bubble ltP k qs, by omega, by omega, by go_num, by rw [bubble_len]; exact HQ.out, ?_, ?_, ?_, ?_⟩
            · rw [← HS.out, show n - k = (n - (k + 1)) + 1 by omega]; rfl
            · rw [← HBU.out, HJ.out]
              first | exact row_step HR2.out (quiet_below ⟨_, rfl⟩) | exact HR2.out
            · rw [← HBU.out, HJ.out]
              first | exact HI2.out.step (quiet_below ⟨_, rfl⟩) | exact HI2.out
            · exact HB2.out.trans ((quiet_below ⟨_, rfl⟩).mono (Nat.le_trans hbw HB2.out.size))
          case measure => simp [intOf]; omega
        · have hj1 : 0 < j := by omega
          have hj2 : (1 : Int) ≤ (j : Int) := by omega
          have hjn : j < rs.length := by omega
          have hjn1 : j - 1 < rs.length := by omega
          have hji : (j : Int) < (n : Int) := by omega
          have hc1 := World.ownsRow.cellAt hrow j (by omega)
          have hc0 := World.ownsRow.cellAt hrow (j - 1) (by omega)
          rw [List.getElem?_map, List.getElem?_eq_getElem hjn] at hc1
          rw [List.getElem?_map, List.getElem?_eq_getElem hjn1] at hc0
          have o1 := hin _ (List.getElem_mem hjn)
          have o0 := hin _ (List.getElem_mem hjn1)
          obtain ⟨a1, c1, e1, i1, l1⟩ := o1.ints
          obtain ⟨a0, c0, e0, i0, l0⟩ := o0.ints
          simp only [Option.map_some, e1] at hc1
          simp only [Option.map_some, e0] at hc0
          have hfr1 := hrow.frozenAt j
          have hfr0 := hrow.frozenAt (j - 1)
          have HE1 := Lib.hid (show rs[j] = (.slice a1 rs[j].2.length c1, rs[j].2) from Prod.ext e1 rfl)
          have HE0 := Lib.hid (show rs[j - 1] = (.slice a0 rs[j - 1].2.length c0, rs[j - 1].2) from Prod.ext e0 rfl)
          have I1 := Lib.hid i1
          have I0 := Lib.hid i0
          clear hq2 hbub o1 o0 e1 e0 i1 i0 hin hbel hj0
          cases hlt1 : ltP rs[j] rs[j - 1] with
          | false =>
            have ht := Lib.hid (show tell (Before rs[j].2 rs[j - 1].2) = false from hlt1)
            have HX := Lib.hid (show bubble ltP j rs = rs by
              obtain ⟨j', rfl⟩ : ∃ j', j = j' + 1 := ⟨j - 1, by omega⟩
              exact bubble_no ltP (by omega) (by simpa using hlt1))
            clear hlt1
            generalize rs[j].2 = z1 at *
            generalize rs[j - 1].2 = z0 at *
            have HR3 := Lib.hid hrow
            clear hrow
            go_wp2
            go_quiet ((go_at_call 76; refine Calls.quiet_of (v := .bool false) ?_; rw [← ht.out]; exact l01Before_any _ _ z1 z0 _ _ _ (I1.out.quiet ⟨_, rfl⟩) (I0.out.quiet ⟨_, rfl⟩) l1 l0))
            go_wp2
            go_roundw
            case rel =>
              refine ⟨k + 1, bubble ltP k qs, by omega, by omega, by go_num, by rw [bubble_len]; exact HQ.out, ?_, ?_, ?_, ?_⟩
              · rw [← HS.out, show n - k = (n - (k + 1)) + 1 by omega]; rfl
              · rw [← HBU.out, HX.out]
                exact row_step HR2.out (quiet_below ⟨_, rfl⟩)
              · rw [← HBU.out, HX.out]
                exact HI2.out.step (quiet_below ⟨_, rfl⟩)
              · exact HB2.out.trans ((quiet_below ⟨_, rfl⟩).mono (Nat.le_trans hbw HB2.out.size))
            case measure => simp [intOf]; omega
          | true =>
            have ht := Lib.hid (show tell (Before rs[j].2 rs[j - 1].2) = true from hlt1)
            have HX := Lib.hid (show bubble ltP j rs = bubble ltP (j - 1) ((rs.set j rs[j - 1]).set (j - 1) rs[j]) by
              obtain ⟨j', rfl⟩ : ∃ j', j = j' + 1 := ⟨j - 1, by omega⟩
              exact bubble_yes ltP (by omega) (by simpa using hlt1))
            have HM1 := Lib.hid (show (rs.set j rs[j - 1]).map Prod.fst = (rs.map Prod.fst).set j (.slice a0 rs[j - 1].2.length c0) by rw [List.map_set, congrArg Prod.fst HE0.out])
            have HM2 := Lib.hid (show ((rs.set j rs[j - 1]).set (j - 1) rs[j]).map Prod.fst = ((rs.map Prod.fst).set j (.slice a0 rs[j - 1].2.length c0)).set (j - 1) (.slice a1 rs[j].2.length c1) by rw [List.map_set, HM1.out, congrArg Prod.fst HE1.out])
            have HMEM := Lib.hid (show ∀ q ∈ (rs.set j rs[j - 1]).set (j - 1) rs[j], q ∈ rs from fun q hq => by
              rcases List.mem_or_eq_of_mem_set hq with h3 | rfl
              · rcases List.mem_or_eq_of_mem_set h3 with h4 | rfl
                · exact h4
                · exact List.getElem_mem _
              · exact List.getElem_mem _)
            have HLEN := Lib.hid (show ((rs.set j rs[j - 1]).set (j - 1) rs[j]).length = n by simp; exact HQ2.out)
            clear hlt1
            generalize (rs.set j rs[j - 1]).set (j - 1) rs[j] = ts at *
            generalize rs[j].2 = z1 at *
            generalize rs[j - 1].2 = z0 at *
            have HR3 := Lib.hid hrow
            clear hrow
            go_wp2
            go_quiet ((go_at_call 76; refine Calls.quiet_of (v := .bool true) ?_; rw [← ht.out]; exact l01Before_any _ _ z1 z0 _ _ _ (I1.out.quiet ⟨_, rfl⟩) (I0.out.quiet ⟨_, rfl⟩) l1 l0))
            go_wp2
            go_roundw
            case rel =>
              obtain ⟨s1, s2, s3⟩ := swap_step (row_step HR2.out (quiet_below ⟨_, rfl⟩)) (HI2.out.step (quiet_below ⟨_, rfl⟩)) HMEM.out j (j - 1) (.slice a0 z0.length c0) (.slice a1 z1.length c1)
              refine ⟨j - 1, ts, by omega, by rw [show ((j : Int) - 1) = ((j - 1 : Nat) : Int) by omega], HLEN.out, by rw [← HBU.out, HX.out], ?_, s2, ?_⟩
              · rw [HM2.out]; exact s1
              · exact (HB2.out.trans ((quiet_below ⟨_, rfl⟩).mono (Nat.le_trans hbw HB2.out.size))).trans s3
            case measure => simp [intOf]; omega
    · have HE := Lib.hid (show n - k = 0 by omega)
      go_wp2_with fail
      go_ret
      have hs := HS.out
      rw [HE.out] at hs
      have hs' : qs = sortFrom ltP (ps.length - 1) 1 ps := hs
      have h2 := HR.out
      rw [hs'] at h2
      rw [← HN.out] at h2
      exact ⟨by rw [HN.out]; rfl, h2, by rw [← hs']; exact HI.out, HB.out⟩
end Go.Proofs.YtnebkhelobpkpaaDoor
