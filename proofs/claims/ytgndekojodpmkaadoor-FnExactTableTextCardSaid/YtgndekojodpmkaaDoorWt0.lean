/- What the text of a table is; TableText of the program. -/
import Derived.Test.YtgndekojodpmkaaDoorLin
import Derived.Test.YtgndekojodpmkaaDoorVtp
import Derived.Deep.RegionHeld3
import Derived.Deep.CutRange
namespace Go.Proofs.YtgndekojodpmkaaDoor
open Go.RowKit Go.Deep
set_option linter.unusedVariables false

def wTab : List UInt8 := [116, 97, 98, 108, 101, 32]
def wRow4 : List UInt8 := [114, 111, 119, 32]
def wCol : List UInt8 := [32, 58]
def tabHead (h : Int) (yo : List Int) : List UInt8 := lineL (wTab ++ Lib.decDigits h.toNat) yo
def tabRow (r : List Int) : List UInt8 := lineL (wRow4 ++ Lib.decDigits (nth r 0).toNat ++ wCol) (r.drop 1)
def tabRows (z : List (List Int)) : List UInt8 := (z.map tabRow).flatten
def tabText (h : Int) (yo : List Int) (z : List (List Int)) : List UInt8 := tabHead h yo ++ tabRows z
noncomputable def tabTextV (h : Int) (yo : List Int) (z : List (List Int)) : ByteArray := if tell (TabOk h yo z) = true then ⟨(tabText h yo z).toArray⟩ else ⟨#[]⟩
theorem tabRow_of {r : List Int} {s : Int} {sh : List Int} (e : r = s :: sh) : tabRow r = lineL (wRow4 ++ Lib.decDigits s.toNat ++ wCol) sh := by subst e; rfl
theorem tabRows_snoc (z : List (List Int)) {k : Nat} (h : k < z.length) : tabRows (z.take (k + 1)) = tabRows (z.take k) ++ tabRow (nthL z k) := by
  rw [nthL_lt h]
  simp only [tabRows, List.take_succ_eq_append_getElem h, List.map_append, List.flatten_append, List.map_cons, List.map_nil, List.flatten_cons, List.flatten_nil, List.append_nil]
theorem tab_head {h : Int} {yo : List Int} {z : List (List Int)} (q : TabOk h yo z) : (0 ≤ h ∧ h < 100) ∧ Digs yo ∧ yo.length ≤ 7 :=
  ⟨⟨by have := q.1.1.1; omega, by have := q.1.1.2; omega⟩, fun i hi => by have := q.1.2.2 i hi; omega, q.1.2.1.2⟩
theorem tab_case {h : Int} {yo : List Int} {z : List (List Int)} (q : TabOk h yo z) {k : Nat} (hk : k < z.length) : (0 ≤ sec z k ∧ sec z k < 100) ∧ Digs (shs z k) ∧ (shs z k).length ≤ 7 := by
  have h1 := q.2.2.1 k hk
  have h2 := q.1.1.2
  have h3 := q.1.2.1.2
  refine ⟨⟨h1.1.1, by have := h1.1.2; omega⟩, fun i hi => ?_, by have := h1.2.1; omega⟩
  have h4 := h1.2.2 i hi
  have h5 := q.1.2.2 i (by have := h1.2.1; omega)
  omega
theorem tabHead_len {h : Int} {yo : List Int} {z : List (List Int)} (q : TabOk h yo z) : (tabHead h yo).length ≤ 40 := by
  obtain ⟨h1, h2, h3⟩ := tab_head q
  have h4 := lineL_len (wTab ++ Lib.decDigits h.toNat) yo h2
  have h5 := dec_two h.toNat (by omega)
  have h6 : wTab.length = 6 := rfl
  rw [List.length_append] at h4
  unfold tabHead
  omega
theorem tabRow_len {h : Int} {yo : List Int} {z : List (List Int)} (q : TabOk h yo z) (hf : Full z) {k : Nat} (hk : k < z.length) : (tabRow (nthL z k)).length ≤ 40 := by
  obtain ⟨h1, h2, h3⟩ := tab_case q hk
  rw [tabRow_of (row_split (hf k hk))]
  have h4 := lineL_len (wRow4 ++ Lib.decDigits (sec z k).toNat ++ wCol) (shs z k) h2
  have h5 := dec_two (sec z k).toNat (by omega)
  have h6 : wRow4.length = 4 := rfl
  have h7 : wCol.length = 2 := rfl
  rw [List.length_append, List.length_append] at h4
  omega
theorem tabRows_len {h : Int} {yo : List Int} {z : List (List Int)} (q : TabOk h yo z) (hf : Full z) (k : Nat) (hk : k ≤ z.length) : (tabRows (z.take k)).length ≤ 40 * k := by
  induction k with
  | zero => simp [tabRows]
  | succ k ih =>
    have h1 := ih (by omega)
    have h2 := tabRow_len q hf (show k < z.length by omega)
    rw [tabRows_snoc z (by omega), List.length_append]
    omega
theorem isB_stepm {B b : Nat} {bs : List Value} {w w' : World} (h : IsB B b bs w) (hb : Below w.heap.size w w') : IsB B b bs w' := by
  have key : ∀ p, Lib.BuilderAt 63 5 B b p bs w → Lib.BuilderAt 63 5 B b p bs w' := fun p ⟨h1, v, h2, h3, h4⟩ =>
    ⟨h1, v, (hb.block b (Array.getElem?_eq_some_iff.1 h2).1).trans h2, row_step h3 hb, h4⟩
  exact h.imp (key _) (key _)

set_option maxRecDepth 100000 in
set_option maxHeartbeats 4000000 in
theorem implWt_any (h : Int) (ao : Option Addr) (yo : List Int) (co : Nat) (a : Option Addr) (z : List (List Int)) (c : Nat) (w : World) (hr : InT w ao yo a z) (hl : LenT yo z) :
    Calls Tryd.prog 12 #[.agg #[.int .i64 h, .slice ao yo.length co, .slice a z.length c]] w fun e w' => e = .returned (.string (tabTextV h yo z)) ∧ Below w.heap.size w w' := by
  have HL := Lib.hid hl
  have hb0 := (Below.refl w.heap.size w).alloc (Nat.le_refl _) (.cells #[.int .i64 h, .slice ao yo.length co, .slice a z.length c] 30)
  have HR := Lib.hid (hr.step hb0)
  have HX := Lib.hid (show Boxes (w.alloc (.cells #[.int .i64 h, .slice ao yo.length co, .slice a z.length c] 30)) w.heap.size 30 #[.int .i64 h, .slice ao yo.length co, .slice a z.length c] from World.alloc_heap_new w _)
  clear hr hl
  go_enter Tryd.func12, Tryd.ntmps12
  go_wp2_with fail
  refine (implVt_any h ao yo co a z c _ HR.out HL.out).mono ?_
  generalize (w.alloc (.cells #[.int .i64 h, .slice ao yo.length co, .slice a z.length c] 30)) = w1 at *
  rintro e w2 ⟨rfl, hb⟩
  have HB2 := Lib.hid (hb0.trans (hb.mono hb0.size))
  have HR2 := Lib.hid (HR.out.step hb)
  have HX2 := Lib.hid (HX.out.step hb)
  clear hb0 hb HX HR
  by_cases hm : TabOk h yo z
  case neg =>
    have HT := Lib.hid (tell_false hm)
    have HV := Lib.hid (show tabTextV h yo z = ⟨#[]⟩ by rw [tabTextV, HT.out]; rfl)
    clear hm
    rw [HT.out]
    go_wp2_with fail
    go_ret
    exact ⟨by rw [HV.out]; rfl, HB2.out⟩
  have HT := Lib.hid (tell_true hm)
  have HM := Lib.hid hm
  have HV := Lib.hid (show tabTextV h yo z = ⟨(tabHead h yo ++ tabRows z).toArray⟩ by rw [tabTextV, HT.out]; rfl)
  clear hm
  rw [HT.out]
  have hb3 := (Below.refl w2.heap.size w2).alloc (Nat.le_refl _) (.cells #[.pointer none, .slice none 0 0] 63)
  have hnew : IsB w2.heap.size w2.heap.size [] (w2.alloc (.cells #[.pointer none, .slice none 0 0] 63)) := .inl ⟨Nat.le_refl _, .slice none 0 0, World.alloc_heap_new w2 _, World.ownsRow_nil _ _ _ _, by simp [Value.ownBlock]⟩
  have hs3 : (w2.alloc (.cells #[.pointer none, .slice none 0 0] 63)).heap.size = w2.heap.size + 1 := by simp
  go_wp2_with fail
  generalize w2.alloc (.cells #[.pointer none, .slice none 0 0] 63) = w3 at *
  have hx3 := HX2.out.step hb3
  have q0 := hx3.m0
  have q1 := hx3.m1
  have q2 := hx3.m2
  have HO3 := Lib.hid (HR2.out.o.step hb3)
  have HB3 := Lib.hid hb3
  have HNEW := Lib.hid hnew
  have hql : w.heap.size < w2.heap.size := HX2.out.lt
  clear hb3 hnew hx3
  obtain ⟨⟨z0, z1⟩, hdg, hl7⟩ := tab_head HM.out
  obtain ⟨m, hmm⟩ : ∃ m : Nat, h = (m : Int) := ⟨h.toNat, by omega⟩
  have hm1 : m < 100 := by omega
  have HDH := Lib.hid (show (⟨(Lib.decDigits m).toArray⟩ : ByteArray).data.toList = Lib.decDigits m from rfl)
  have hdl : (⟨(Lib.decDigits m).toArray⟩ : ByteArray).size ≤ 2 := by have := dec_two m hm1; simpa [ByteArray.size] using this
  have hfi := fun W => fmt_any m hm1 W
  generalize (⟨(Lib.decDigits m).toArray⟩ : ByteArray) = dh at *
  have HFI := Lib.hid hfi
  have HDG := Lib.hid hdg
  have HL1 := Lib.hid (show ∀ W, Ints W ao yo → Calls Tryd.prog 40 #[.string ((⟨#[116, 97, 98, 108, 101, 32]⟩ : ByteArray) ++ dh), .slice ao yo.length co] W fun e w' => e = .returned (.string ⟨(tabHead h yo).toArray⟩) ∧ W = w' from fun W hW => by
    have := lineOf_any ((⟨#[116, 97, 98, 108, 101, 32]⟩ : ByteArray) ++ dh) ao yo co W hW HDG.out (by omega) (by rw [ByteArray.size_append]; show 6 + dh.size ≤ 1000; omega)
    have e1 : (((⟨#[116, 97, 98, 108, 101, 32]⟩ : ByteArray) ++ dh)).data.toList = wTab ++ Lib.decDigits h.toNat := by rw [hmm, Int.toNat_natCast, ← HDH.out]; simp [ByteArray.data_append, wTab]
    rw [e1] at this
    exact this)
  have hhl := tabHead_len HM.out
  have HHD := Lib.hid (show (⟨(tabHead h yo).toArray⟩ : ByteArray).data.toList = tabHead h yo from rfl)
  have hds : (⟨(tabHead h yo).toArray⟩ : ByteArray).size ≤ 40 := by simpa [ByteArray.size] using hhl
  generalize (⟨(tabHead h yo).toArray⟩ : ByteArray) = hd at *
  have HCE := Lib.hid (show ([] : List Value) ++ Lib.strCells hd = Lib.byteCells (tabHead h yo ++ tabRows (z.take 0)) by
    rw [List.nil_append, Lib.strCells_eq, HHD.out]; simp [tabRows])
  have k1 : ¬ 9223372036854775807 < 6 + dh.size := by omega
  have k2 : ¬ 9223372036854775807 < (⟨#[116, 97, 98, 108, 101, 32]⟩ : ByteArray).size + dh.size := by show ¬ _ < 6 + dh.size; omega
  have HMM := Lib.hid hmm
  have q0' : w3.cell? ⟨w.heap.size, 0, none⟩ = some (.int .i64 (m : Int)) := by rw [← HMM.out]; exact q0
  have MK := Lib.hid (show ∀ w' : World, Below w2.heap.size w3 w' → Below w2.heap.size w3 w' ∧ w'.cell? ⟨w.heap.size, 0, none⟩ = some (.int .i64 (m : Int)) ∧ w'.cell? ⟨w.heap.size, 1, none⟩ = some (.slice ao yo.length co) from fun w' hb => ⟨hb, (hb.cell (p := ⟨w.heap.size, 0, none⟩) hql).trans q0', (hb.cell (p := ⟨w.heap.size, 1, none⟩) hql).trans q1⟩)
  clear hfi hdg z0 z1 hmm q0 q0' q1 HDH HHD
  generalize hbb : w2.heap.size = b at *
  go_cut [3] from 9 to 16 (fun s3 wc => s3 = .pointer (some ⟨b, 0, none⟩) ∧ IsB b b (Lib.byteCells (tabHead h yo ++ tabRows (z.take 0))) wc ∧ Below b w3 wc)
  case first =>
    go_region_held3 (fun w' => Below b w3 w' ∧ w'.cell? ⟨w.heap.size, 0, none⟩ = some (.int .i64 (m : Int)) ∧ w'.cell? ⟨w.heap.size, 1, none⟩ = some (.slice ao yo.length co)) (first | exact MK.out _ (Below.refl _ _).drew | exact MK.out _ EW.out | fail) (first | (go_at_call 41; refine (HFI.out _).mono ?_; rintro e w' ⟨rfl, rfl⟩) | (go_at_call 40; refine (HL1.out _ (by first | exact HO3.out | exact HO3.out.step (drew_step _))).mono ?_; rintro e w' ⟨rfl, rfl⟩) | (go_at_call 39; refine (writeString_any b b [] hd _ (by first | exact HNEW.out | exact isB_stepm HNEW.out (drew_step _)) (by simp; omega) (by first | omega | (simp; omega))).mono ?_; rintro e w5 ⟨rfl, hisb, hb5⟩; have EW := Lib.hid (show Below b w3 w5 from by first | exact (Below.refl _ _).trans hb5 | exact ((Below.refl b w3).drew).trans hb5); rw [HCE.out] at hisb; have HISB := Lib.hid hisb; clear hisb hb5))
    all_goals (
      go_wp2_with fail
      go_meet
      exact ⟨rfl, HISB.out, EW.out⟩)
  case rest =>
  obtain ⟨rfl, hisb, hb5⟩ := hcut
  obtain ⟨w5, hw5⟩ : ∃ W : World, W = wc := ⟨_, rfl⟩
  subst hw5
  have HIS := Lib.hid hisb
  have HB5 := Lib.hid (show Below b w2 w5 from HB3.out.trans hb5)
  have HX5 := Lib.hid (show w5.cell? ⟨w.heap.size, 2, none⟩ = some (.slice a z.length c) from (hb5.cell (p := ⟨w.heap.size, 2, none⟩) hql).trans q2)
  have x2 := HX5.out
  have yl : w.heap.size < w5.heap.size := by have := hb5.size; omega
  clear hisb hb5 HNEW HCE MK HFI HL1 k1 k2 q2
  go_wp2_with fail
  go_loopw [20] (fun i wr => ∃ k : Nat, k ≤ z.length ∧ i = .int .i64 k ∧ IsB b b (Lib.byteCells (tabHead h yo ++ tabRows (z.take k))) wr ∧ Below b w2 wr)
    (fun i _ => z.length - (intOf i).toNat)
  case atStart => exact ⟨0, Nat.zero_le _, rfl, HIS.out, HB5.out⟩
  case round =>
    obtain ⟨k, hk, rfl, hisb, hbel⟩ := hrel
    have HI := Lib.hid hisb
    have HB := Lib.hid hbel
    have hszr : b ≤ wr.heap.size := by rw [← hbb]; exact hbel.size
    clear hisb HIS hbel x2
    by_cases hlt : k < z.length
    · rcases HR2.out.r.below HB.out (by omega) with hh | ⟨rb, ro, rfl, hc⟩
      · rw [hh] at hlt; exact absurd hlt (Nat.not_lt_zero _)
      obtain ⟨ai, ci, g0, g1, hints⟩ := hc k hlt
      have hki : (k : Int) < (z.length : Int) := by omega
      obtain ⟨⟨s0, s1⟩, hdg, hlen⟩ := tab_case HM.out hlt
      have hrl := tabRow_len HM.out HL.out.full hlt
      have hrs := tabRows_len HM.out HL.out.full k hk
      have hk700 := HM.out.2.1.2
      have HTR := Lib.hid (tabRow_of (row_split (HL.out.full k hlt)))
      have HSN := Lib.hid (show tabHead h yo ++ tabRows (z.take (k + 1)) = (tabHead h yo ++ tabRows (z.take k)) ++ tabRow (nthL z k) by rw [tabRows_snoc z hlt, List.append_assoc])
      generalize sec z k = s at g0 s0 s1 HTR
      generalize shs z k = sh at g1 hints hdg hlen HTR
      obtain ⟨m2, hm2⟩ : ∃ m : Nat, s = (m : Int) := ⟨s.toNat, by omega⟩
      have hm3 : m2 < 100 := by omega
      have hfi := fun W => fmt_any m2 hm3 W
      have HDS := Lib.hid (show (⟨(Lib.decDigits m2).toArray⟩ : ByteArray).data.toList = Lib.decDigits m2 from rfl)
      have hdl2 : (⟨(Lib.decDigits m2).toArray⟩ : ByteArray).size ≤ 2 := by have := dec_two m2 hm3; simpa [ByteArray.size] using this
      generalize (⟨(Lib.decDigits m2).toArray⟩ : ByteArray) = ds at *
      have HFI := Lib.hid hfi
      have HDG := Lib.hid hdg
      generalize nthL z k = row at *
      have HL1 := Lib.hid (show ∀ W, Ints W ai sh → Calls Tryd.prog 40 #[.string (((⟨#[114, 111, 119, 32]⟩ : ByteArray) ++ ds) ++ (⟨#[32, 58]⟩ : ByteArray)), .slice ai sh.length ci] W fun e w' => e = .returned (.string ⟨(tabRow row).toArray⟩) ∧ W = w' from fun W hW => by
        have := lineOf_any (((⟨#[114, 111, 119, 32]⟩ : ByteArray) ++ ds) ++ (⟨#[32, 58]⟩ : ByteArray)) ai sh ci W hW HDG.out (by omega) (by rw [ByteArray.size_append, ByteArray.size_append]; show 4 + ds.size + 2 ≤ 1000; omega)
        have e1 : ((((⟨#[114, 111, 119, 32]⟩ : ByteArray) ++ ds) ++ (⟨#[32, 58]⟩ : ByteArray))).data.toList = wRow4 ++ Lib.decDigits s.toNat ++ wCol := by rw [hm2, Int.toNat_natCast, ← HDS.out]; simp [ByteArray.data_append, wRow4, wCol]
        rw [e1, ← HTR.out] at this
        exact this)
      have HHD := Lib.hid (show (⟨(tabRow row).toArray⟩ : ByteArray).data.toList = tabRow row from rfl)
      have hds2 : (⟨(tabRow row).toArray⟩ : ByteArray).size ≤ 40 := by simpa [ByteArray.size] using hrl
      generalize (⟨(tabRow row).toArray⟩ : ByteArray) = tr at *
      have HCE := Lib.hid (show Lib.byteCells (tabHead h yo ++ tabRows (z.take k)) ++ Lib.strCells tr = Lib.byteCells (tabHead h yo ++ tabRows (z.take (k + 1))) by
        rw [HSN.out, Lib.byteCells_append _ (tabRow row), Lib.strCells_eq, HHD.out])
      have hlen2 : (Lib.byteCells (tabHead h yo ++ tabRows (z.take k))).length + tr.size ≤ 100000000 := by rw [Lib.byteCells_length, List.length_append]; omega
      subst hm2
      have hba := (Below.refl wr.heap.size wr).alloc (Nat.le_refl _) (.cells #[.int .i64 (m2 : Int), .slice ai sh.length ci] 71)
      have hbx : Boxes (wr.alloc (.cells #[.int .i64 (m2 : Int), .slice ai sh.length ci] 71)) wr.heap.size 71 #[.int .i64 (m2 : Int), .slice ai sh.length ci] := World.alloc_heap_new wr _
      have hy2 : wr.cell? ⟨w.heap.size, 2, none⟩ = some (.slice (some ⟨rb, ro, none⟩) z.length c) := (HB.out.cell (p := ⟨w.heap.size, 2, none⟩) (by omega)).trans HX2.out.m2
      clear hc hfi hdg s0 s1 hrs
      go_wp2_with fail
      generalize wr.alloc (.cells #[.int .i64 (m2 : Int), .slice ai sh.length ci] 71) = w6 at *
      have hw6 : b ≤ w6.heap.size := Nat.le_trans hszr hba.size
      have HI6 := Lib.hid (isB_stepm HI.out hba)
      have HIN := Lib.hid (hints.step hba)
      have r0 := hbx.c0
      have r1 := hbx.c1
      have hne : wr.heap.size ≠ b := by
        intro e0
        rcases HI.out with u | u
        · have := u.2; obtain ⟨_, u1, _⟩ := this; have := (Array.getElem?_eq_some_iff.1 u1).1; omega
        · have := u.2; obtain ⟨_, u1, _⟩ := this; have := (Array.getElem?_eq_some_iff.1 u1).1; omega
      have HB6 := Lib.hid (HB.out.trans (hba.mono hszr))
      have k1 : ¬ 9223372036854775807 < 4 + ds.size := by omega
      have k2 : ¬ 9223372036854775807 < (⟨#[114, 111, 119, 32]⟩ : ByteArray).size + ds.size := by show ¬ _ < 4 + ds.size; omega
      have k3 : ¬ 9223372036854775807 < ((⟨#[114, 111, 119, 32]⟩ : ByteArray) ++ ds).size + 2 := by rw [ByteArray.size_append]; show ¬ _ < 4 + ds.size + 2; omega
      have k4 : ¬ 9223372036854775807 < 4 + ds.size + 2 := by omega
      have k5 : ¬ 9223372036854775807 < ((⟨#[114, 111, 119, 32]⟩ : ByteArray) ++ ds).size + (⟨#[32, 58]⟩ : ByteArray).size := by rw [ByteArray.size_append]; show ¬ _ < 4 + ds.size + 2; omega
      have MK := Lib.hid (show ∀ w' : World, Below w6.heap.size w6 w' → Below w6.heap.size w6 w' ∧ w'.cell? ⟨wr.heap.size, 0, none⟩ = some (.int .i64 (m2 : Int)) ∧ w'.cell? ⟨wr.heap.size, 1, none⟩ = some (.slice ai sh.length ci) from fun w' hb => ⟨hb, cell_step hb r0, cell_step hb r1⟩)
      clear hba hbx hints
      go_region_with (first | (go_at_call 41; refine (HFI.out _).mono ?_; rintro e w' ⟨rfl, rfl⟩) | (go_at_call 40; refine (HL1.out _ (by first | exact HIN.out | exact HIN.out.step (drew_step _))).mono ?_; rintro e w' ⟨rfl, rfl⟩) | (go_at_call 39; refine (writeString_any b b _ tr _ (by first | exact HI6.out | exact isB_stepm HI6.out (drew_step _)) hlen2 (by first | omega | (simp; omega))).mono ?_; rintro e w7 ⟨rfl, hisb, hb7⟩; have EW := Lib.hid (show Below b w2 w7 from by first | exact HB6.out.trans hb7 | exact (HB6.out.drew).trans hb7); rw [HCE.out] at hisb; have HISB := Lib.hid hisb; clear hisb hb7))
      all_goals (
        go_wp2_with fail
        go_roundw
        case rel => exact ⟨k + 1, by omega, by go_num, HISB.out, EW.out⟩
        case measure => simp [intOf]; omega)
    · have HK := Lib.hid (show k = z.length by omega)
      have hi := HI.out
      rw [HK.out, List.take_length] at hi
      have HI2 := Lib.hid hi
      clear hi
      go_wp2_with fail
      refine (Tryd.Builder_String_any b b _ wr HI2.out hszr).mono ?_
      rintro e w' ⟨rfl, hb7⟩
      have HB7 := Lib.hid (HB.out.trans hb7)
      clear hb7
      go_wp2_with fail
      go_ret
      refine ⟨by rw [HV.out]; rfl, ?_⟩
      have h1 := HB7.out
      rw [← hbb] at h1
      exact HB2.out.trans (h1.mono HB2.out.size)
end Go.Proofs.YtgndekojodpmkaaDoor
