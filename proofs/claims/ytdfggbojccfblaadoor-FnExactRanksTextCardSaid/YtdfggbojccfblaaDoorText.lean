/- The contracts of a group's text: the model's GroupText; text, the program's GroupText. -/
import Derived.Test.YtdfggbojccfblaaDoorList
import Derived.Test.YtdfggbojccfblaaDoorOpen
namespace Go.Proofs.YtdfggbojccfblaaDoor
open Go.RowKit Go.Deep
set_option linter.unusedVariables false

theorem Tryd.infoUint8 : (Tryd.prog.info? 5).map (fun i => (i.zero, i.size, i.bytes)) = some (some (.int .u8 0), 1, 1) := by kernel_rfl

def letters (zs : List Int) : List Int := zs.map fun z => 65 + z
def textOf (zs : List Int) : ByteArray := if zs = [] then ⟨#[45]⟩ else strOfNums (letters zs)
noncomputable def groupText (zs : List Int) : ByteArray := if tell (IsGrp 7 zs) = true then textOf zs else ⟨#[]⟩
def valsB (ns : List Int) : List Value := ns.map (Value.int .u8)
/-- Bytes that a call has made. -/
def OwnB (w : World) (base : Nat) (v : Value) (ns : List Int) : Prop := w.ownsRow base 5 1 v ns.length (valsB ns)

theorem OwnB.string {w : World} {base : Nat} {v : Value} {ns : List Int} (h : OwnB w base v ns) (hne : ns ≠ []) : ∃ a c, v = .slice a ns.length c ∧ (convert 66 9 v).run Tryd.prog w = .ok (.string (strOfNums ns)) w := by
  rcases h.2 with ⟨hv, hn⟩ | ⟨g, cap, cur, hv, hb, hg, hnc, hcm, hcs, htake⟩
  · exact absurd (List.eq_nil_of_length_eq_zero hn) hne
  · subst hv
    refine ⟨_, _, rfl, run_convert_bytes_arg (P := Tryd.prog) w 66 5 Tryd.underlying66 Tryd.underlying5 g 0 ns.length cap ns rfl (fun i hi => ?_) _ Tryd.underlying9⟩
    rw [Nat.zero_add, World.ownsRow.cellAt h i (by omega)]
    simp [valsB, hi, List.getD]

theorem letters_take (zs : List Int) {k : Nat} (h : k < zs.length) : letters (zs.take (k + 1)) = letters (zs.take k) ++ [65 + nth zs k] := by
  rw [List.take_succ_eq_append_getElem h, nth_lt h]; simp only [letters, List.map_append, List.map_cons, List.map_nil]
theorem letters_len (zs : List Int) {k : Nat} (h : k ≤ zs.length) : (letters (zs.take k)).length = k := by simp [letters]; omega
theorem valsB_snoc (zs : List Int) (z : Int) : valsB (zs ++ [z]) = valsB zs ++ [.int .u8 z] := by simp [valsB]

theorem grp_len {l : List Int} (h : IsGrp 7 l) : l.length ≤ 7 := by
  have : ∀ k, k < l.length → (k : Int) ≤ nth l k := by
    intro k
    induction k with
    | zero => intro hk; exact (h 0 hk).1
    | succ k ih =>
      intro hk
      have h1 := ih (by omega)
      have h2 := (h (k + 1) hk).2.2 (by omega)
      simp at h2
      omega
  rcases Nat.lt_or_ge 7 l.length with h0 | h0
  · have h1 := this 7 h0
    have h2 := (h 7 h0).2.1
    omega
  · exact h0

set_option maxRecDepth 100000 in
set_option maxHeartbeats 800000 in
theorem specText_any (a : Option Addr) (zs : List Int) (c : Nat) (w : World) (h : Ints w a zs) (hl : zs.length ≤ 9223372036854775807) :
    Calls Tryd.prog 37 #[.slice a zs.length c] w fun e w' => e = .returned (.string (groupText zs)) ∧ Below w.heap.size w w' := by
  obtain ⟨i0, hi, hz0, hz1, hz2⟩ := info_parts Tryd.infoUint8
  cases hf : tell (IsGrp 7 zs) with
  | false =>
    have HF := Lib.hid hf
    clear hf
    go_enter Tryd.func37, Tryd.ntmps37
    go_wp2_with fail
    refine (l01Group_any a zs c 7 w h hl (by omega) (by omega)).mono ?_
    rintro e w1 ⟨rfl, hq⟩
    rw [HF.out]
    have hb := quiet_below hq
    clear hq
    go_wp2_with fail
    go_ret
    exact ⟨by rw [groupText, HF.out]; rfl, hb⟩
  | true =>
    have HG := Lib.hid (of_tell hf)
    have HF := Lib.hid hf
    have hl7 := grp_len HG.out
    clear hf
    go_enter Tryd.func37, Tryd.ntmps37
    go_wp2_with fail
    refine (l01Group_any a zs c 7 w h hl (by omega) (by omega)).mono ?_
    rintro e w1 ⟨rfl, hq⟩
    rw [HF.out]
    have hb := quiet_below hq
    have hi1 := h.quiet hq
    clear hq h
    go_wp2_with fail
    have hown : OwnB (w1.alloc (.cells #[] 5)) w1.heap.size (.slice (some ⟨w1.heap.size, 0, none⟩) 0 0) [] := World.ownsRow_made w1 #[] 0 (Nat.le_refl _) (by unfold maxLen; omega) rfl
    have hb1 := (Below.refl w1.heap.size w1).alloc (Nat.le_refl _) (.cells #[] 5)
    have HI1 := Lib.hid hi1
    have HB0 := Lib.hid hb
    clear hi1 hb
    generalize (Value.slice (some ⟨w1.heap.size, 0, none⟩) 0 0) = v0 at *
    go_loopw [3, 4] (fun v i wr => ∃ k : Nat, k ≤ zs.length ∧ i = .int .i64 k ∧ OwnB wr w1.heap.size v (letters (zs.take k)) ∧ Below w1.heap.size w1 wr)
      (fun _ i _ => zs.length - (intOf i).toNat)
    case atStart => exact ⟨0, by omega, rfl, hown, hb1⟩
    case round =>
      obtain ⟨k, hk, rfl, ho, hbr⟩ := hrel
      have hir := HI1.out.below hbr (Nat.le_refl _)
      have HO := Lib.hid ho
      have HB := Lib.hid hbr
      have hszr := hbr.size
      clear ho hbr hown hb1
      by_cases hlt : k < zs.length
      · have HI := Lib.hid hir
        rcases hir with h0 | ⟨b, o, rfl, hc⟩
        · rw [h0] at hlt; exact absurd hlt (Nat.not_lt_zero _)
        have g1 := hc k hlt
        have hi0 : (k : Int) < (zs.length : Int) := by omega
        have hz0 := (HG.out k hlt).1
        have hz1 := (HG.out k hlt).2.1
        have hlk := letters_len zs hk
        have HLK := Lib.hid hlk
        have hlb : (letters (zs.take k)).length ≤ 7 := by omega
        clear hc hlk
        go_wp2_with (at_builtin; refine wpList_append_own _ rfl _ _ 66 rfl w1.heap.size 5 i0 (.int .u8 0) 1 1 Tryd.underlying66 hi (by assumption) (by assumption) (by assumption) rfl (by decide) _ _ _ rfl (World.ownsRow.alloc HO.out _) ⟨wr.heap.size, 0, none⟩ 1 1 [.int .u8 (65 + nth zs k)] rfl rfl (cell_one_new _ _ _) (by simp [Value.oneCell']) (by unfold maxLen; omega) (by omega) (by simp; omega) ?_; intro v' w2 hown1 hgrow1 _)
        go_wp2
        go_roundw
        case rel =>
          refine ⟨k + 1, by omega, by go_num, ?_, ?_⟩
          · unfold OwnB; rw [letters_take zs hlt, valsB_snoc, List.length_append]; exact hown1
          · exact (HB.out.alloc hszr _).grown hgrow1 (by simp; omega) (fun q hq => (HO.out.lt q hq).1)
        case measure => simp [intOf]; omega
      · have HE := Lib.hid (show k = zs.length by omega)
        have hfin := HO.out
        rw [HE.out, List.take_length] at hfin
        have HBF := Lib.hid (HB0.out.trans (HB.out.mono HB0.out.size))
        by_cases hz : zs = []
        · subst hz
          have HGT := Lib.hid (show groupText [] = ⟨#[45]⟩ by rw [groupText, HF.out]; rfl)
          have e0 : letters ([] : List Int) = [] := rfl
          rw [e0] at hfin
          rcases hfin.2 with ⟨rfl, _⟩ | ⟨g, cap, cur, rfl, _⟩
          all_goals
            clear hfin e0 hir HI1 HO
            go_wp2_with fail
            go_ret
            exact ⟨by rw [HGT.out]; rfl, HBF.out⟩
        · have hnl : letters zs ≠ [] := by simp [letters, hz]
          have hlen : (letters zs).length = zs.length := by simp [letters]
          have hpos : 0 < zs.length := by
            cases zs with
            | nil => exact absurd rfl hz
            | cons _ _ => simp
          obtain ⟨a9, c9, rfl, hcv⟩ := hfin.string hnl
          rw [hlen] at hcv
          have t1 : ((zs.length : Int) == 0) = false := by simp; omega
          have t2 : (zs.length == 0) = false := by simp; omega
          have HGT := Lib.hid (show groupText zs = strOfNums (letters zs) by rw [groupText, HF.out, if_pos rfl, textOf, if_neg hz])
          have HCV := Lib.hid hcv
          clear hfin hir HI1 HO hz hnl hcv
          simp only [hlen]
          have hcv := HCV.out
          clear hlen
          go_wp2_with fail
          go_ret
          exact ⟨by rw [HGT.out]; rfl, HBF.out⟩
end Go.Proofs.YtdfggbojccfblaaDoor
