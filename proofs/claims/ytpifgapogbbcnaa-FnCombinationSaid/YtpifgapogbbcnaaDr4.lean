/- A2Elements; what a law of combinations asks of the answers. -/
import Derived.Test.YtpifgapogbbcnaaDr3
import Derived.Test.YtpifgapogbbcnaaRd7
import Derived.Test.YtpifgapogbbcnaaIsp
namespace Go.Proofs.Ytpifgapogbbcnaa
open Go.RowKit Go.Deep Go.Joins
set_option linter.unusedVariables false

/-- What gives n elements. -/
structure GivesEl (p : Int) (n : Nat) (e : Ending) (w' : World) : Prop where
  val : ∃ va vc v, e = .returned (.slice va n vc) ∧ v.length = n ∧ Elems p v ∧ Ints w' va v
set_option maxRecDepth 100000 in
set_option maxHeartbeats 1000000 in
theorem A2Elements_any (a : Option Addr) (zs : List Int) (c : Nat) (p : Int) (n : Nat) (w : World) (h : Bytes w a zs) (hl : zs.length ≤ 3000) (hp : 2 ≤ p) (hp1 : p ≤ 31) (hn : n ≤ 100) :
    Calls Try.prog 7 #[.slice a zs.length c, .int .i64 p, .int .i64 (n : Int)] w fun e w' => GivesEl p n e w' ∧ Below w.heap.size w w' := by
  have HB := Lib.hid h
  clear h
  obtain ⟨i0, hi, hz0, hz1, hz2⟩ := info_parts Try.infoInt64
  go_enter Try.func7, Try.ntmps7
  go_wp2_with fail
  refine (l00From_any a zs c w HB.out hl).mono ?_
  rintro e w1 ⟨rfl, hs1, hb1⟩
  have hq : w.heap.size < w1.heap.size := hs1.low.1
  generalize hqq : w.heap.size = q at *
  have HS1 := Lib.hid hs1
  have HB1 := Lib.hid hb1
  clear hs1 hb1 HB
  go_wp2_with fail
  have hown0 : OwnI (w1.alloc (.cells #[] 2)) w1.heap.size (.slice (some ⟨w1.heap.size, 0, none⟩) 0 0) ([] : List Int) := by
    exact World.ownsRow_made w1 (base := w1.heap.size) (e := 2) (size := 1) #[] 0 (Nat.le_refl _) (by unfold maxLen; omega) rfl
  have HOW := Lib.hid hown0
  have hba := al_b w1 (.cells #[] 2)
  have HSA := Lib.hid (HS1.out.quiet hba)
  have HGA := Lib.hid (grown_below (g := q) hba)
  have HLO := Lib.hid HS1.out.low
  clear hown0 hba
  generalize w1.alloc (.cells #[] 2) = w4 at *
  generalize (Value.slice (some ⟨w1.heap.size, 0, none⟩) 0 0) = v0 at *
  go_loopw [8, 9] (fun q5 i wi => ∃ (j : Nat) (r : List Int) (kk : Nat), j ≤ n ∧ i = .int .i64 j ∧ r.length = j ∧ (∀ x ∈ r, Elem p x) ∧ OwnI wi w1.heap.size q5 r ∧ w1.grownBy wi (some q) ∧ Src wi q a zs c kk ∧ kk ≤ j)
    (fun _ i _ => n - (intOf i).toNat)
  case atStart => exact ⟨0, [], 0, Nat.zero_le _, rfl, rfl, by simp, HOW.out, HGA.out, HSA.out, by omega⟩
  case round =>
    obtain ⟨j, r, kk, hj, rfl, hrl, hre, ho, hgi, hsi, hkk⟩ := hrel
    have HRL := Lib.hid hrl
    have HRE := Lib.hid hre
    have HOI := Lib.hid ho
    have HGI := Lib.hid hgi
    have HSI := Lib.hid hsi
    have hsz := hgi.size
    clear hrl hre ho hgi hsi HOW HGA HSA
    by_cases hltj : j < n
    · have hj0 : (j : Int) < (n : Int) := by omega
      go_wp2_with fail
      refine (pick_any q a zs c kk p wr HSI.out (by omega) (by omega) (by omega)).mono ?_
      rintro e w5 ⟨⟨v, rfl, vv0, vv1⟩, ⟨k5, hk5, hs5⟩, hg5⟩
      have HOI5 := Lib.hid (HOI.out.far hg5 hq)
      have HS5 := Lib.hid hs5
      have HG5 := Lib.hid (grown_trans HGI.out hg5)
      have hsz5 := Nat.le_trans hsz hg5.size
      clear hs5 hg5
      go_wp2_with (at_builtin; refine wpList_append_own _ rfl _ _ 28 rfl w1.heap.size 2 i0 (.int .i64 0) 1 8 Try.underlying28 hi hz0 hz1 hz2 rfl (by decide) _ _ _ rfl (World.ownsRow.alloc HOI5.out _) ⟨w5.heap.size, 0, none⟩ 1 1 [.int .i64 v] rfl rfl (cell_one_new _ _ _) (by simp [Value.oneCell']) (by rw [HRL.out]; unfold maxLen; omega) (by rw [HRL.out]; omega) (by simp; omega) ?_; intro v' w6 hown6 hgrow6 _)
      have H6 := Lib.hid (show OwnI w6 w1.heap.size v' (r ++ [v]) by
        unfold OwnI; rw [vals_snoc, List.length_append]; exact hown6)
      have hgp := grown_pre ((Below.refl w5.heap.size w5).alloc (Nat.le_refl _) (.cells #[.int .i64 v] 2)) hgrow6
      have HS6 := Lib.hid (HS5.out.kept HLO.out hgp (fun b hb => (row_lt HOI5.out hb).1))
      have HG6 := Lib.hid (grown_mixd HG5.out hgp (fun b hb => (row_lt HOI5.out hb).1))
      clear hown6 hgrow6 hgp
      go_wp2_with fail
      go_roundw
      case rel => exact ⟨j + 1, r ++ [v], k5, by omega, by go_num, by simp [HRL.out], fun x hx => by rcases List.mem_append.1 hx with h | h; exact HRE.out x h; simp at h; subst h; exact ⟨vv0, vv1⟩, H6.out, HG6.out, HS6.out, by omega⟩
      case measure => simp [intOf]; omega
    · have hj0 : ¬ (j : Int) < (n : Int) := by omega
      have hE : j = n := by omega
      subst hE
      obtain ⟨ua, uc, hu5⟩ := rowForm HOI.out
      rw [HRL.out] at hu5
      subst hu5
      go_wp2_with fail
      go_ret
      refine ⟨⟨ua, uc, r, rfl, HRL.out, fun i hi => ?_, Ints_of_own HOI.out⟩, below_grown1 HB1.out HGI.out (by omega) (Nat.le_refl _)⟩
      rw [nth_lt hi]
      exact HRE.out _ (List.getElem_mem _)

/-- The rows' products with a list. -/
def valsOf (p : Int) (n : Nat) (z : List (List Int)) (v : List Int) : List Int := (List.range z.length).map fun i => dotTo (nth (nthL z i)) (nth v) n % p
theorem valsOf_len (p : Int) (n : Nat) (z : List (List Int)) (v : List Int) : (valsOf p n z v).length = z.length := by simp [valsOf]
theorem valsOf_at (p : Int) (n : Nat) (z : List (List Int)) (v : List Int) {i : Nat} (h : i < z.length) : nth (valsOf p n z v) i = dotTo (nth (nthL z i)) (nth v) n % p := by
  rw [nth_lt (by rw [valsOf_len]; exact h)]; simp [valsOf]
theorem mod_of_dvd {p d v : Int} (h : p ∣ d - v) (h0 : 0 ≤ v) (h1 : v < p) : d % p = v := by
  obtain ⟨k, hk⟩ := h
  rw [show d = v + p * k by omega, Int.add_mul_emod_self_left, Int.emod_eq_of_lt h0 h1]
theorem solZ_len' {p : Int} {n : Nat} {z : List (List Int)} {v : List Int} : (solZ p n z v).length = n := solZ_len
section
variable {p : Int} {n : Nat} {z : List (List Int)} {v : List Int}
/-- What a combination is. -/
theorem comb_is (hm : MatOk p n z) (hn : n ≤ 12) (hl : v.length = n) (hv : Elems p v) : cbCode p n z v = 6 ∨ (cbCode p n z v = 0 ∧ (cbZs p n z v).length = z.length ∧ Elems p (cbZs p n z v) ∧ ∀ j, j < n → dotTo (nth (cbZs p n z v)) (fun i => nth (nthL z i) j) z.length % p = nth v j) := by
  have hg := GoodM.of hm
  simp only [Int.toNat_natCast] at hg
  have hz := hm.2.2.1
  have hgt := turned_good hg (by omega)
  have hlt : v.length = (turned z n).length := by unfold turned; rw [tab_len]; exact hl
  obtain ⟨e1, e2⟩ := cb_ok (v := v) hm
  simp only [Int.toNat_natCast] at e1 e2
  obtain ⟨f1, f2⟩ := sn_yes (n := z.length) (show ValOk p (turned z n) v from ⟨hlt, hv⟩)
  by_cases hs : SolOk p z.length (turned z n) v
  · obtain ⟨g1, g2⟩ := sol_yes hs
    rw [e1, e2, f1, f2, g1, g2]
    refine .inr ⟨rfl, solZ_len', solZ_elems hgt (by omega) hlt hv, fun j hj => ?_⟩
    have h := sol_sat hgt (by omega) hlt hv hs j (by unfold turned; rw [tab_len]; exact hj)
    have hd : dotTo (nth (nthL (turned z n) j)) (nth (solZ p z.length (turned z n) v)) z.length = dotTo (nth (solZ p z.length (turned z n) v)) (fun i => nth (nthL z i) j) z.length := by
      rw [dot_comm3]
      refine dot_congr _ fun i hi => ⟨rfl, ?_⟩
      unfold turned; rw [tab_at _ _ _ hj hi]
    rw [hd] at h
    obtain ⟨v0, v1⟩ := hv j (by omega)
    exact mod_of_dvd h v0 v1
  · rw [e2, f2, (sol_no hs).2]
    exact .inl rfl
/-- What is solved for the products of a list with the rows. -/
theorem solve_is (hm : MatOk p n z) (hn : n ≤ 12) (hl : v.length = n) (hv : Elems p v) : sfCode p n z (valsOf p n z v) = 0 ∧ (sfZs p n z (valsOf p n z v)).length = n ∧ Elems p (sfZs p n z (valsOf p n z v)) ∧ ∀ i, i < z.length → dotTo (nth (nthL z i)) (nth (sfZs p n z (valsOf p n z v))) n % p = nth (valsOf p n z v) i := by
  have hg := GoodM.of hm
  simp only [Int.toNat_natCast] at hg
  have hp := hm.1.1
  have hvl := valsOf_len p n z v
  have hve : Elems p (valsOf p n z v) := fun i hi => by
    rw [hvl] at hi
    rw [valsOf_at _ _ _ _ hi]
    exact mod_elem hp _
  have hs : SolOk p n z (valsOf p n z v) := sol_find hg (by omega) hvl hve (nth v) fun r hr => by
    rw [valsOf_at _ _ _ _ hr]
    exact Int.dvd_self_sub_emod
  obtain ⟨e1, e2⟩ := sf_ok (v := valsOf p n z v) hm
  simp only [Int.toNat_natCast] at e1 e2
  obtain ⟨f1, f2⟩ := sn_yes (n := n) (show ValOk p z (valsOf p n z v) from ⟨hvl, hve⟩)
  obtain ⟨g1, g2⟩ := sol_yes hs
  rw [e1, e2, f1, f2, g1, g2]
  refine ⟨rfl, solZ_len', solZ_elems hg (by omega) hvl hve, fun i hi => ?_⟩
  obtain ⟨v0, v1⟩ := hve i (by rw [hvl]; exact hi)
  exact mod_of_dvd (sol_sat hg (by omega) hvl hve hs i hi) v0 v1
end
end Go.Proofs.Ytpifgapogbbcnaa
