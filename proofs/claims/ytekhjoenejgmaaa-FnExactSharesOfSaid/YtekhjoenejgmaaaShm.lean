/- SharesOf of the model. -/
import Derived.Test.YtekhjoenejgmaaaVs
import Derived.Test.YtekhjoenejgmaaaDot
import Derived.Test.YtekhjoenejgmaaaOw
import Derived.Deep.AppendLies
import Derived.Deep.RegionLaw
import Derived.Deep.CutRange
import Derived.Lib.SliceRun
namespace Go.Proofs.Ytekhjoenejgmaaa
open Go.RowKit Go.Deep Go.Joins Go.ChangeShapes Go.WideShapes Go.ChangeAt
set_option linter.unusedVariables false

/-- The shares of the first rows. -/
def shTo (f l : Int) (z : List (List Int)) (x : Int) (bl : List Int) (n : Nat) : List Int := (List.range n).map fun i => dotTo (nth (nthL z i)) (nth (x :: bl)) l.toNat % f
theorem shTo_len (f l : Int) (z : List (List Int)) (x : Int) (bl : List Int) (n : Nat) : (shTo f l z x bl n).length = n := by simp [shTo]
theorem shTo_snoc (f l : Int) (z : List (List Int)) (x : Int) (bl : List Int) (n : Nat) : shTo f l z x bl (n + 1) = shTo f l z x bl n ++ [dotTo (nth (nthL z n)) (nth (x :: bl)) l.toNat % f] := by simp [shTo, List.range_succ]
theorem alx_b (w : World) (o : Obj) : Below w.heap.size w (w.alloc o) := (Below.refl _ _).alloc (Nat.le_refl _) o

set_option maxRecDepth 100000 in
set_option maxHeartbeats 4000000 in
theorem l04Shares_any (q0 : Nat) (h f l : Int) (ao : Option Addr) (yo : List Int) (co : Nat) (a : Option Addr) (z : List (List Int)) (c : Nat) (x : Int) (ab : Option Addr) (bl : List Int) (cb : Nat) (w : World) (hbx : Boxes w q0 33 #[.int .i64 h, .slice ao yo.length co, .int .i64 f, .int .i64 l, .slice a z.length c]) (hr : InS w ao yo a z) (hok : SchOk h yo f l z) (hb : Ints w ab bl) (hx : Elem f x) (hrow : RowOk f (l - 1) bl) :
    Calls Try.prog 59 #[.pointer (some ⟨q0, 0, none⟩), .int .i64 x, .slice ab bl.length cb] w (GivesInts w (shTo f l z x bl z.length)) := by
  obtain ⟨i0, hi, hz0, hz1, hz2⟩ := info_parts Try.infoInt64
  have hf0 := hok.2.1.1.1
  have hf1 := hok.2.1.1.2.1
  have hl12 := hok.2.1.2.1
  have hz20 := hok.2.1.2.2.1
  have hbl : bl.length ≤ 11 := by have := hrow.1; omega
  have hl1 : l.toNat = bl.length + 1 := by have := hrow.1; have := hok.2.2.1; omega
  have HROW := Lib.hid (show ∀ r, r < z.length → (nthL z r).length = bl.length + 1 ∧ Elems f (nthL z r) from fun r hr => by have h1 := hok.2.1.2.2.2 r hr; exact ⟨by have := h1.1; have := hrow.1; omega, h1.2⟩)
  have HEL := Lib.hid (show Elems f (x :: bl) from fun i hi => by
    cases i with
    | zero => exact hx
    | succ i => exact hrow.2 i (by simpa using hi))
  have HX := Lib.hid hbx
  have HR := Lib.hid hr
  have HBL := Lib.hid hb
  have HO := Lib.hid (show OwnI (w.alloc (.cells #[.int .i64 x] 2)) w.heap.size (.slice (some ⟨w.heap.size, 0, none⟩) 1 1) [x] from World.ownsRow_lit w #[.int .i64 x] 1 (Nat.le_refl _) (by unfold maxLen; omega) rfl)
  clear hbx hr hok hb hx hrow
  go_enter Try.func59, Try.ntmps59
  go_upto_region 1 with fail
  go_cut [7] from 10 to 13 (fun s7 wr => ∃ (aa : Option Addr) (ca : Nat), s7 = .slice aa (bl.length + 1) ca ∧ OwnI wr w.heap.size (.slice aa (bl.length + 1) ca) (x :: bl) ∧ Below w.heap.size w wr)
  case first =>
    cases ab with
    | none =>
      have hz : bl = [] := by
        rcases HBL.out with h | ⟨b, o, e, _⟩
        · exact h
        · cases e
      subst hz
      go_wp2_with (at_builtin; refine wpList_append_none_c rfl _ _ 22 rfl w.heap.size 2 i0 1 Try.underlying22 hi _ 1 (vals [x]) cb rfl HO.out rfl ?_)
      go_wp2_with fail
      go_meet
      exact ⟨_, _, rfl, HO.out, alx_b _ _⟩
    | some ad =>
      have hnews : ∀ j u, (vals bl)[j]? = some u → (w.alloc (.cells #[.int .i64 x] 2)).cell? (ad.add j) = some u := fun j u hj => by
        obtain ⟨h1, rfl⟩ := vals_get bl hj
        rcases HBL.out with h | ⟨b, o, e, hc⟩
        · rw [h] at h1; exact absurd h1 (Nat.not_lt_zero _)
        · cases e
          have := cell_step (alx_b w (.cells #[.int .i64 x] 2)) (hc j h1)
          rw [add_plain]; exact this
      go_wp2_with (at_builtin; refine wpList_append_own _ rfl _ _ 22 rfl w.heap.size 2 i0 (.int .i64 0) 1 8 Try.underlying22 hi hz0 hz1 hz2 rfl (by decide) _ 1 (vals [x]) rfl HO.out ad bl.length cb (vals bl) rfl (by simp [vals]) hnews (by simp [vals, Value.oneCell']) (by unfold maxLen; omega) (by omega) (by simp) ?_; intro v' w1 hown1 hgrow1 _; obtain ⟨aa, ca, rfl⟩ := rowForm hown1)
      go_wp2_with fail
      go_meet
      refine ⟨aa, ca, by rw [Nat.add_comm], ?_, (alx_b w _).grown hgrow1 (by simp) (fun q hq => (HO.out.lt hq).1)⟩
      rw [Nat.add_comm bl.length 1]
      unfold OwnI
      rw [List.length_cons, Nat.add_comm bl.length 1]
      exact hown1
  case rest =>
  obtain ⟨aa, ca, rfl, hoa, hba⟩ := hcut
  obtain ⟨wA, hwA⟩ : ∃ W : World, W = wc := ⟨_, rfl⟩
  subst hwA
  have HAL := Lib.hid (Ints_of_own hoa)
  have HBA := Lib.hid hba
  have HXA := Lib.hid (HX.out.step hba)
  have HRA := Lib.hid (HR.out.step hba)
  clear hoa hba HX HR HBL HO
  go_wp2_with fail
  have hown : OwnI (wA.alloc (.cells #[] 2)) wA.heap.size (.slice (some ⟨wA.heap.size, 0, none⟩) 0 0) [] := World.ownsRow_made wA #[] 0 (Nat.le_refl _) (by unfold maxLen; omega) rfl
  have hb0 := alx_b wA (.cells #[] 2)
  generalize wA.alloc (.cells #[] 2) = wB at *
  generalize (Value.slice (some ⟨wA.heap.size, 0, none⟩) 0 0) = v0 at *
  go_loopw [8, 9] (fun s8 s9 wr => ∃ k : Nat, k ≤ z.length ∧ s9 = .int .i64 k ∧ OwnI wr wA.heap.size s8 (shTo f l z x bl k) ∧ Below wA.heap.size wA wr)
    (fun _ s9 _ => z.length - (intOf s9).toNat)
  case atStart => exact ⟨0, Nat.zero_le _, rfl, hown, hb0⟩
  case round =>
    obtain ⟨k, hk, rfl, ho, hb⟩ := hrel
    obtain ⟨va, vc, hv⟩ := rowForm ho
    rw [shTo_len] at hv
    subst hv
    have HOK := Lib.hid ho
    have HB := Lib.hid hb
    have hsz := hb.size
    have hxk := HXA.out.step hb
    have x2 := hxk.s2
    have x4 := hxk.s4
    have xl := hxk.lt
    clear ho hb hxk hown hb0
    by_cases hlt : k < z.length
    · have hk0 : (k : Int) < (z.length : Int) := by omega
      rcases (HRA.out.r.below HB.out (Nat.le_refl _)) with h | ⟨zb, zo, rfl, hzc⟩
      · rw [h] at hlt; exact absurd hlt (Nat.not_lt_zero _)
      obtain ⟨ai, ci, hcell, hints⟩ := hzc k hlt
      have HI := Lib.hid hints
      have HA2 := Lib.hid (HAL.out.below HB.out (Nat.le_refl _))
      obtain ⟨hln, hele⟩ := HROW.out k hlt
      have HE := Lib.hid hele
      have HLN := Lib.hid hln
      rw [hln] at hcell
      have HSN := Lib.hid (shTo_snoc f l z x bl k)
      have HDT := Lib.hid (show dotTo (nth (nthL z k)) (nth (x :: bl)) (nthL z k).length % f = dotTo (nth (nthL z k)) (nth (x :: bl)) l.toNat % f by rw [hln, hl1])
      obtain ⟨dv, hdv⟩ : ∃ dv, dotTo (nth (nthL z k)) (nth (x :: bl)) l.toNat % f = dv := ⟨_, rfl⟩
      rw [hdv] at HDT HSN
      have hcall : ∀ W : World, Ints W ai (nthL z k) → Ints W aa (x :: bl) → Calls Try.prog 98 #[.int .i64 f, .slice ai (bl.length + 1) ci, .slice aa (bl.length + 1) ca] W fun e w' => e = .returned (.int .i64 dv) ∧ Quiet W w' := fun W q1 q2 => by
        have h := l03Dot_any f ai aa (nthL z k) (x :: bl) ci ca W hf0 hf1 q1 q2 (by rw [HLN.out]; simp) (by rw [HLN.out]; omega) HE.out HEL.out
        rw [HDT.out, HLN.out, List.length_cons] at h
        exact h
      have HCA := Lib.hid hcall
      clear hzc hints hln hele hcall hdv
      have hlc : (nthL z k).length = bl.length + 1 := HLN.out
      go_wp2_with fail
      go_region_law (first
        | (go_simp; go_at_call 98; refine (HCA.out _ (by first | exact HI.out | exact HI.out.below (Below.refl _ _).drew (Nat.le_refl _)) (by first | exact HA2.out | exact HA2.out.below (Below.refl _ _).drew (Nat.le_refl _))).mono ?_; rintro e w5 ⟨rfl, hq5⟩; have HB5 := Lib.hid (show Below wr.heap.size wr w5 by first | exact quiet_below hq5 | exact (drew_step wr).trans (quiet_below hq5)); have HO5 := Lib.hid (show OwnI w5 wA.heap.size (.slice va k vc) (shTo f l z x bl k) from HOK.out.step HB5.out))
        | (refine step_append_lies _ (by rfl) _ _ 22 (by rfl) wA.heap.size 2 i0 (.int .i64 0) 1 8 Try.underlying22 hi hz0 hz1 hz2 (by rfl) (by decide) (.slice va k vc) k (vals (shTo f l z x bl k)) (by rfl) (by have h := World.ownsRow.alloc HO5.out (.cells #[.int .i64 dv] 2); rw [shTo_len] at h; exact h) ⟨w5.heap.size, 0, none⟩ 1 1 [.int .i64 dv] (by rfl) (by rfl) (by first | exact cell_one_new _ _ _ | (intro j u hj; exact cell_one_new w5 _ _ j u hj)) (by simp [Value.oneCell']) (by decide) (by unfold maxLen; omega) (by omega) (by have := HB5.out.size; simp; omega) _ rfl ?_; intro g cap w8 hown8 hgrow8 hat8 hlt8))
      all_goals (
        have H8 := Lib.hid (show OwnI w8 wA.heap.size (.slice (some ⟨g, 0, none⟩) (k + 1) cap) (shTo f l z x bl (k + 1)) by rw [HSN.out]; unfold OwnI; rw [vals_snoc, List.length_append, shTo_len]; exact hown8)
        have HB8 := Lib.hid (((HB.out.trans (HB5.out.mono hsz)).trans ((alx_b w5 _).mono (by have := HB5.out.size; omega))).grown hgrow8 (by have := HB5.out.size; simp only [World.size_alloc]; omega) (fun q hq => (HO5.out.lt hq).1))
        clear hown8 hgrow8 hat8 hlt8
        go_wp2_with fail
        go_roundw
        case rel => exact ⟨k + 1, by omega, by go_num, H8.out, HB8.out⟩
        case measure => simp [intOf]; omega)
    · have hk0 : ¬ (k : Int) < (z.length : Int) := by omega
      have hE : k = z.length := by omega
      subst hE
      go_wp2_with fail
      go_ret
      exact ⟨⟨_, rfl, ownsRow_mono HOK.out HBA.out.size⟩, HBA.out.trans (HB.out.mono HBA.out.size)⟩
end Go.Proofs.Ytekhjoenejgmaaa
