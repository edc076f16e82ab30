/- changeRow of the program. -/
import Derived.Test.YtnebkhelobpkpaaGp
import Derived.Deep.RegionLaw
namespace Go.Proofs.Ytnebkhelobpkpaa
open Go.RowKit Go.Deep
set_option linter.unusedVariables false

theorem grown_trans {a b c : World} {g : Nat} (h : a.grownBy b (some g)) (k : b.grownBy c (some g)) : a.grownBy c (some g) :=
  ⟨k.os.trans h.os, k.tape.trans h.tape, k.output.trans h.output, Nat.le_trans h.size k.size, fun q hq hne => (k.block q (Nat.lt_of_lt_of_le hq h.size) hne).trans (h.block q hq hne)⟩
theorem grown_below {a b : World} {g : Nat} (h : Below a.heap.size a b) : a.grownBy b (some g) := ⟨h.os, h.tape, h.output, h.size, fun q hq _ => h.block q hq⟩
theorem grown_set (a : World) (g o : Nat) (u : Value) : a.grownBy (a.setCell ⟨g, o, none⟩ u) (some g) :=
  ⟨rfl, rfl, rfl, (KeepsWalks.setCell a _ u).size, fun q _ hq => Below.heap_setCell _ _ _ q (fun e => hq (by rw [e]))⟩
/-- What a function makes of the elements of a row in the block g, whatever has been made of those before. -/
structure Changes (g fid : Nat) (cr : Array Value) (p : Int) (n : Nat) (row : Nat → Int) (h : Nat → Int → Int) (Inv : World → Prop) : Prop where
  enters : ∀ args w, (callFunc fid args).run Try.prog w = .ok (.enter fid args) w
  step : ∀ W W', Inv W → Below W.heap.size W W' → Inv W'
  put : ∀ W o u, Inv W → Inv (W.setCell ⟨g, o, none⟩ u)
  calls : ∀ W j, Inv W → j < n → Calls Try.prog fid (#[.int .i64 j, .agg #[.int .i64 p, .int .i64 (row j)]] ++ cr) W fun e w' => e = .returned (.agg #[.int .i64 p, .int .i64 (h j (row j))]) ∧ Below W.heap.size W w'
/-- A row that is changed up to an element. -/
def chTo (f : Nat → Nat → Int) (i k : Nat) (h : Nat → Int → Int) : Nat → Nat → Int := fun c r => if c = i ∧ r < k then h r (f c r) else f c r
theorem chTo_zero (f : Nat → Nat → Int) (i : Nat) (h : Nat → Int → Int) : chTo f i 0 h = f := by funext c r; unfold chTo; rw [if_neg (by omega)]
theorem chTo_step (f : Nat → Nat → Int) (i k : Nat) (h : Nat → Int → Int) : putAt (chTo f i k h) i k (h k (f i k)) = chTo f i (k + 1) h := by
  funext c r
  unfold putAt chTo
  by_cases h1 : c = i ∧ r = k
  · obtain ⟨rfl, rfl⟩ := h1; simp
  · rw [if_neg h1]
    have : (c = i ∧ r < k) ↔ (c = i ∧ r < k + 1) := by omega
    simp only [this]

set_option maxRecDepth 100000 in
set_option maxHeartbeats 4000000 in
theorem changeRow_any (p : Int) (va : Option Addr) (vc m n i base g cap fid : Nat) (cr : Array Value) (us : List Value) (f : Nat → Nat → Int) (h : Nat → Int → Int) (Inv : World → Prop) (w : World)
    (ho : OwnG w base p (.slice va m vc) us (tab m n f)) (hi : i < m) (hm : m ≤ 1000) (hn : n ≤ 1000) (hn0 : 0 < n) (hu : us[i]? = some (.slice (some ⟨g, 0, none⟩) n cap)) (hC : Changes g fid cr p n (f i) h Inv) (hI : Inv w) :
    Calls Try.prog 141 #[.slice va m vc, .int .i64 i, .func (.func fid) #[] cr] w fun e w' => e = .returned (.tuple #[]) ∧ OwnG w' base p (.slice va m vc) us (tab m n (chTo f i n h)) ∧ w.grownBy w' (some g) ∧ Inv w' := by
  have hil : i < (tab m n f).length := by rw [tab_len]; exact hi
  have hrl : (nthL (tab m n f) i).length = n := tab_rlen _ _ _ hi
  obtain ⟨b, c, g', cap', hv, hu', hb1, hg1, hbl, hgl, hcr, hcc, hfz, hon⟩ := ho.at (r := i) hil (by rw [hrl]; exact hn0)
  rw [hrl] at hu' hcr hon
  rw [hu] at hu'
  rw [tab_len] at hv
  cases hv
  cases hu'
  have HO := Lib.hid ho
  have HU := Lib.hid hu
  have HI := Lib.hid hI
  have HST := Lib.hid hC.step
  have HPU := Lib.hid hC.put
  have HCA := Lib.hid hC.calls
  have hE := hC.enters
  have hi0 : (i : Int) < (m : Int) := by omega
  clear ho hu hI hC hcc hfz hil hrl
  go_enter Try.func141, Try.ntmps141
  go_wp2_with fail
  go_loopw [6, 7, 13] (fun q6 q7 q wr => ∃ (k : Nat), k ≤ n ∧ q = .int .i64 k ∧ OwnG wr base p (.slice (some ⟨b, 0, none⟩) m vc) us (tab m n (chTo f i k h)) ∧ w.grownBy wr (some g) ∧ Inv wr)
    (fun _ _ q _ => n - (intOf q).toNat)
  case atStart => exact ⟨0, Nat.zero_le _, rfl, by rw [chTo_zero]; exact HO.out, World.grownBy.refl _ _, HI.out⟩
  case round =>
    obtain ⟨k, hk, rfl, ho, hg, hI⟩ := hrel
    have HOK := Lib.hid ho
    have HG := Lib.hid hg
    have HIK := Lib.hid hI
    clear HO HI
    by_cases hlt : k < n
    · have hk0 : (k : Int) < (n : Int) := by omega
      have hil : i < (tab m n (chTo f i k h)).length := by rw [tab_len]; exact hi
      have hrl : (nthL (tab m n (chTo f i k h)) i).length = n := tab_rlen _ _ _ hi
      obtain ⟨b', c', g', cap', hv, hu', hb1', hg1', hbl', hgl', hcr', hcc, hfz, hon'⟩ := ho.at (r := i) hil (by rw [hrl]; exact hn0)
      rw [hrl] at hu' hcr' hcc hon'
      rw [HU.out] at hu'
      rw [tab_len] at hv
      cases hv
      cases hu'
      obtain ⟨d0, d1⟩ := hcc k hlt
      rw [tab_at _ _ _ hi hlt] at d1
      have hfk : chTo f i k h i k = f i k := by unfold chTo; rw [if_neg (by omega)]
      rw [hfk] at d1
      have f0 := hfz (k * 2)
      have f1 := hfz (k * 2 + 1)
      have HFK := Lib.hid hfk
      clear ho hg hI hcc hfz hfk hcr
      go_wp2_with fail
      have hl1 : b < wr.heap.size + 1 := by omega
      have hl2 : g < wr.heap.size + 1 := by omega
      have hl3 : g ≠ wr.heap.size := by omega
      have HA := Lib.hid (show Below wr.heap.size wr (wr.alloc (.cells #[.int .i64 p, .int .i64 (f i k)] 126)).drew from ((Below.refl _ _).alloc (Nat.le_refl _) _).drew)
      go_region_law (go_simp; refine (HCA.out _ k (HST.out _ _ HIK.out HA.out) hlt).mono ?_; rintro e w8 ⟨rfl, hb8⟩; have HB8 := Lib.hid (HA.out.trans (hb8.mono HA.out.size)); have HI8 := Lib.hid (HST.out _ _ HIK.out HB8.out); have hs8 : wr.heap.size ≤ w8.heap.size := HB8.out.size; have z0 := cell_step HB8.out hcr'; have z1 := cell_step HB8.out d0; have z2 := cell_step HB8.out d1; have zf0 := (HB8.out.frozen (p := ⟨g, k * 2, none⟩) hgl').trans f0; have zf1 := (HB8.out.frozen (p := ⟨g, k * 2 + 1, none⟩) hgl').trans f1; have zl := Nat.lt_of_lt_of_le hbl' hs8; have zl2 := Nat.lt_of_lt_of_le hgl' hs8; have zf2 : k * 2 + 1 ≠ k * 2 := (by omega))
      all_goals (
        have HO6 := Lib.hid (show OwnG ((w8.setCell ⟨g, k * 2, none⟩ (.int .i64 p)).setCell ⟨g, k * 2 + 1, none⟩ (.int .i64 (h k (f i k)))) base p (.slice (some ⟨b, 0, none⟩) m vc) us (tab m n (chTo f i (k + 1) h)) by
          have := (HOK.out.step HB8.out).put (r := i) (by rw [tab_len]; exact hi) (by rw [tab_rlen _ _ _ hi]; exact HU.out) k (h k (f i k))
          rw [tab_put _ _ _ _ _ hi, chTo_step] at this
          exact this)
        have HG6 := Lib.hid (grown_trans (grown_trans (grown_trans HG.out (grown_below HB8.out)) (grown_set w8 g (k * 2) (.int .i64 p))) (grown_set _ g (k * 2 + 1) (.int .i64 (h k (f i k)))))
        have HI6 := Lib.hid (HPU.out _ (k * 2 + 1) (.int .i64 (h k (f i k))) (HPU.out _ (k * 2) (.int .i64 p) HI8.out))
        generalize (w8.setCell ⟨g, k * 2, none⟩ (.int .i64 p)).setCell ⟨g, k * 2 + 1, none⟩ (.int .i64 (h k (f i k))) = w6 at *
        go_wp2_with fail
        go_roundw
        case rel => exact ⟨k + 1, by omega, by go_num, HO6.out, HG6.out, HI6.out⟩
        case measure => simp [intOf]; omega)
    · have HE := Lib.hid (show k = n by omega)
      go_wp2_with fail
      go_end0
      rw [HE.out] at ho
      exact ⟨rfl, ho, hg, hI⟩
end Go.Proofs.Ytnebkhelobpkpaa
