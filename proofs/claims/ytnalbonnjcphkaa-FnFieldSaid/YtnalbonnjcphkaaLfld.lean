/- 'laws.FnField': for every choice of a prime and of elements the program's sums and products obey the rules of arithmetic, each element but 0 has an inverse, and its power p - 1 is 1. No condition. -/
import Derived.Test.YtnalbonnjcphkaaMod
import Derived.Test.YtnalbonnjcphkaaByt
namespace Go.Proofs.Ytnalbonnjcphkaa
open Go.ChangeShapes Go.WideShapes Go.ChangeAt Go.RowKit Go.Deep
set_option linter.unusedVariables false
namespace Field

def prmN (n : Nat) : Bool := decide (2 ≤ n) && decide (n ≤ 31) && (List.range n).all fun d => decide (d < 2) || n % d != 0
theorem prm_iff (n : Nat) : Prm (n : Int) ↔ prmN n = true := by
  unfold prmN Prm
  simp only [Bool.and_eq_true, decide_eq_true_eq, List.all_eq_true, List.mem_range, Bool.or_eq_true, bne_iff_ne, ne_eq]
  constructor
  · rintro ⟨h1, h2, h3⟩
    refine ⟨⟨by omega, by omega⟩, fun d hd => ?_⟩
    by_cases e : d < 2
    · exact .inl e
    · exact .inr fun k => h3 d (by omega) (by omega) (by rw [← Int.natCast_emod, k]; rfl)
  · rintro ⟨⟨h1, h2⟩, h3⟩
    refine ⟨by omega, by omega, fun d hd1 hd2 k => ?_⟩
    obtain ⟨m, rfl⟩ : ∃ m : Nat, d = m := ⟨d.toNat, by omega⟩
    rcases h3 m (by omega) with h | h
    · omega
    · rw [← Int.natCast_emod] at k
      exact h (by exact_mod_cast k)
/-- The primes up to 31. -/
def pr (j : Nat) : Nat := [2, 3, 5, 7, 11, 13, 17, 19, 23, 29, 31].getD j 31
theorem pr_fact : ∀ j : Fin 11, prmN (pr j.val) = true := by decide +kernel
theorem pr_between : ∀ j : Fin 10, ∀ q : Fin 32, pr j.val < q.val → q.val < pr (j.val + 1) → prmN q.val = false := by decide +kernel
theorem pr_mono : ∀ j : Fin 10, pr j.val < pr (j.val + 1) ∧ pr (j.val + 1) ≤ 31 := by decide +kernel
theorem pr_range : ∀ j : Fin 11, 2 ≤ pr j.val ∧ pr j.val ≤ 31 := by decide +kernel
theorem prm_pr {j : Nat} (h : j ≤ 10) : Prm (pr j : Nat) := (prm_iff _).2 (pr_fact ⟨j, by omega⟩)
theorem not_prm {j q : Nat} (h : j < 10) (h1 : pr j < q) (h2 : q < pr (j + 1)) : ¬ Prm (q : Nat) := fun k => by
  have h3 := (pr_mono ⟨j, h⟩).2
  have h4 := pr_between ⟨j, h⟩ ⟨q, by simp only at h3; omega⟩ h1 h2
  rw [prm_iff] at k
  simp only at h4
  rw [h4] at k
  cases k

def powN (p a : Nat) : Nat → Nat
  | 0 => 1
  | k + 1 => powN p a k * a % p
theorem powN_of (p a k : Nat) : powOf (p : Int) (a : Int) k = (powN p a k : Nat) := by
  induction k with
  | zero => rfl
  | succ k ih => simp only [powOf, powN, ih, Int.natCast_emod, Int.natCast_mul]
theorem fermat : ∀ p : Fin 32, prmN p.val = true → ∀ a : Fin 32, 0 < a.val → a.val < p.val → (a.val * powN p.val a.val (p.val - 2)) % p.val = 1 ∧ powN p.val a.val (p.val - 1) = 1 := by decide +kernel
theorem units {p a : Int} (hp : Prm p) (ha : Elem p a) (h0 : a ≠ 0) : a * powOf p a (p - 2).toNat % p = 1 ∧ powOf p a (p - 1).toNat = 1 := by
  obtain ⟨n, rfl⟩ : ∃ n : Nat, p = n := ⟨p.toNat, by have := hp.1; omega⟩
  obtain ⟨m, rfl⟩ : ∃ m : Nat, a = m := ⟨a.toNat, by have := ha.1; omega⟩
  have h1 := hp.2.1
  have h2 := ha.2
  obtain ⟨f1, f2⟩ := fermat ⟨n, by omega⟩ ((prm_iff n).1 hp) ⟨m, by omega⟩ (by simp only; omega) (by simp only; omega)
  simp only at f1 f2
  have hn := hp.1
  rw [powN_of, powN_of, show ((n : Int) - 2).toNat = n - 2 by omega, show ((n : Int) - 1).toNat = n - 1 by omega, f2]
  refine ⟨?_, rfl⟩
  rw [← Int.natCast_mul, ← Int.natCast_emod, f1]; rfl
theorem distrib (p a b c : Int) : (a + b) % p * c % p = (a * c % p + c * b % p) % p := by
  rw [← Int.add_emod, Int.mul_comm c b, ← Int.add_mul, Int.mul_emod ((a + b) % p) c p, Int.emod_emod, ← Int.mul_emod]

set_option maxRecDepth 100000 in
set_option maxHeartbeats 4000000 in
theorem law (a0 : Option Addr) (z0 : List Int) (c0 : Nat) (a1 : Option Addr) (z1 : List Int) (c1 : Nat) (w : World) (hr0 : Bytes w a0 z0) (hl0 : z0.length ≤ 9223372036854775807) (hr1 : Bytes w a1 z1) (hl1 : z1.length ≤ 9223372036854775807) :
    Calls Try.prog 3 #[.slice a0 z0.length c0, .slice a1 z1.length c1] w fun e w' => e = .returned (.bool true) ∧ Below w.heap.size w w' := by
  have R0 := Lib.hid hr0
  have R1 := Lib.hid hr1
  clear hr0 hr1
  by_cases hlong : 3000 < z0.length ∨ 3000 < z1.length
  · have HT := Lib.hid (tell_true hlong)
    clear hlong
    go_enter Try.func3, Try.ntmps3
    go_wp2_with fail
    refine (a2Long_any a0 a1 z0 z1 c0 c1 w).mono ?_
    rintro e w' ⟨rfl, rfl⟩
    rw [HT.out]
    go_wp2_with fail
    go_ret
    exact ⟨rfl, Below.refl _ _⟩
  have HT := Lib.hid (tell_false hlong)
  have s0 : z0.length ≤ 3000 := by omega
  have s1 : z1.length ≤ 3000 := by omega
  clear hlong
  go_enter Try.func3, Try.ntmps3
  go_wp2_with fail
  refine (a2Long_any a0 a1 z0 z1 c0 c1 w).mono ?_
  rintro e w' ⟨rfl, rfl⟩
  rw [HT.out]
  go_wp2_with fail
  have hA0 := a2At_any a0 z0 c0 0 11 w R0.out s0 (by omega) (by omega) (by omega)
  refine hA0.mono ?_
  clear hA0
  rintro e w' ⟨rfl, rfl⟩
  obtain ⟨k0, k1⟩ := atOf_range z0 0 (n := 11) (by omega)
  generalize atOf z0 0 11 = kk at *
  obtain ⟨m, rfl⟩ : ∃ m : Nat, kk = m := ⟨kk.toNat, by omega⟩
  have hm : m ≤ 10 := by omega
  clear k0 k1
  go_wp2_with fail
  go_loop [5, 6] (fun pv kv => ∃ j : Nat, j ≤ m ∧ pv = .int .i64 (pr j : Nat) ∧ kv = .int .i64 ((m : Int) - j))
    (fun _ kv => (intOf kv).toNat)
  case atStart => exact ⟨0, Nat.zero_le _, rfl, by simp⟩
  case round =>
    obtain ⟨j, hj, rfl, rfl⟩ := hrel
    by_cases hlt : j < m
    · have t0 : (0 : Int) < (m : Int) - j := by omega
      obtain ⟨n0, n1⟩ := pr_mono ⟨j, by omega⟩
      obtain ⟨n2, -⟩ := pr_range ⟨j, by omega⟩
      simp only at n0 n1 n2
      have HX := Lib.hid (fun (q : Nat) (h1 : pr j < q) (h2 : q < pr (j + 1)) => tell_false (not_prm (j := j) (by omega) h1 h2))
      have HY := Lib.hid (tell_true (prm_pr (j := j + 1) (by omega)))
      have HZ := Lib.hid (rfl : pr (j + 1) = pr (j + 1))
      generalize hq1 : pr (j + 1) = q1 at HX HY n0 n1
      have HQ1 := Lib.hid hq1
      clear hq1 HZ
      generalize hq0 : pr j = q0 at HX n0 n2 ⊢
      clear hq0
      go_wp2_with fail
      go_loop [5] (fun pv => ∃ q : Nat, pv = .int .i64 q ∧ q0 < q ∧ q ≤ q1)
        (fun pv => q1 - (intOf pv).toNat)
      case atStart => exact ⟨q0 + 1, by go_num, by omega, by omega⟩
      case round =>
        obtain ⟨q, rfl, hq0, hq1⟩ := hrel
        by_cases hlq : q < q1
        · have HF := Lib.hid (HX.out q hq0 hlq)
          have t1 : (q : Int) < 31 := by omega
          go_wp2_with fail
          refine (implPrime_any q w).mono ?_
          rintro e w' ⟨rfl, rfl⟩
          rw [HF.out]
          go_wp2_with fail
          go_round
          case rel => exact ⟨q + 1, by go_num, by omega, by omega⟩
          case measure => simp [intOf]; omega
        · obtain rfl : q = q1 := by omega
          go_wp2_with fail
          refine (implPrime_any q w).mono ?_
          rintro e w' ⟨rfl, rfl⟩
          rw [HY.out]
          go_wp2_with fail
          go_round
          case rel => exact ⟨j + 1, by omega, by rw [HQ1.out], by go_num⟩
          case measure => simp [intOf]; omega
    · obtain rfl : j = m := by omega
      have HP := Lib.hid (prm_pr hm)
      obtain ⟨p2, p3⟩ := pr_range ⟨j, by omega⟩
      simp only at p2 p3
      generalize pr j = pn at *
      generalize hpp : (pn : Int) = p at *
      have q2 : 2 ≤ p := by omega
      have q3 : p ≤ 31 := by omega
      clear hpp p2 p3
      have HPT := Lib.hid (tell_true HP.out)
      go_wp2_with fail
      refine (specPrime_any p w).mono ?_
      rintro e w' ⟨rfl, rfl⟩
      rw [HPT.out]
      go_wp2_with fail
      have hA := a2At_any a1 z1 c1 0 p w R1.out s1 (by omega) (by omega) (by omega)
      refine hA.mono ?_
      clear hA
      rintro e w' ⟨rfl, rfl⟩
      have ra := atOf_range z1 0 (n := p) (by omega)
      generalize atOf z1 0 p = a at *
      go_wp2_with fail
      have hA := a2At_any a1 z1 c1 1 p w R1.out s1 (by omega) (by omega) (by omega)
      refine hA.mono ?_
      clear hA
      rintro e w' ⟨rfl, rfl⟩
      have rb := atOf_range z1 1 (n := p) (by omega)
      generalize atOf z1 1 p = b at *
      go_wp2_with fail
      have hA := a2At_any a1 z1 c1 2 p w R1.out s1 (by omega) (by omega) (by omega)
      refine hA.mono ?_
      clear hA
      rintro e w' ⟨rfl, rfl⟩
      have rc := atOf_range z1 2 (n := p) (by omega)
      generalize atOf z1 2 p = c at *
      have EA := Lib.hid (show Elem p a from ra)
      have EB := Lib.hid (show Elem p b from rb)
      have EC := Lib.hid (show Elem p c from rc)
      have E1 := Lib.hid (mod_elem q2 (a + b))
      have E2 := Lib.hid (mod_elem q2 (a * c))
      have E3 := Lib.hid (mod_elem q2 (c * b))
      have HD := Lib.hid (distrib p a b c)
      have hs : 0 ≤ a + b ∧ a + b ≤ 62 := by omega
      obtain ⟨hs0, hs1⟩ := hs
      clear ra rb rc
      go_wp2_with fail
      have hO : Prm p ∧ Elem p a ∧ Elem p b := ⟨HP.out, EA.out, EB.out⟩
      refine (implAddMod_any p a b _).mono ?_
      rw [numOf_yes hO, codeOf_yes hO]
      clear hO
      rintro e w1 ⟨rfl, hb⟩
      have D := Lib.hid hb
      clear hb
      go_wp2_with fail
      have hO : Prm p ∧ Elem p ((a + b) % p) ∧ Elem p c := ⟨HP.out, E1.out, EC.out⟩
      refine (implMulMod_any p ((a + b) % p) c _).mono ?_
      rw [numOf_yes hO, codeOf_yes hO]
      clear hO
      rintro e w2 ⟨rfl, hb⟩
      replace D := Lib.hid (chain D.out hb)
      clear hb
      generalize hl : (a + b) % p * c % p = lf at *
      have HL := Lib.hid hl
      clear hl
      go_wp2_with fail
      have hO : Prm p ∧ Elem p a ∧ Elem p c := ⟨HP.out, EA.out, EC.out⟩
      refine (implMulMod_any p a c _).mono ?_
      rw [numOf_yes hO, codeOf_yes hO]
      clear hO
      rintro e w3 ⟨rfl, hb⟩
      replace D := Lib.hid (chain D.out hb)
      clear hb
      generalize hac : a * c % p = ac at *
      have HAC := Lib.hid hac
      clear hac
      go_wp2_with fail
      have hO : Prm p ∧ Elem p c ∧ Elem p b := ⟨HP.out, EC.out, EB.out⟩
      refine (implMulMod_any p c b _).mono ?_
      rw [numOf_yes hO, codeOf_yes hO]
      clear hO
      rintro e w4 ⟨rfl, hb⟩
      replace D := Lib.hid (chain D.out hb)
      clear hb
      generalize hcb : c * b % p = cb at *
      have HCB := Lib.hid hcb
      clear hcb
      go_wp2_with fail
      have hO : Prm p ∧ Elem p ac ∧ Elem p cb := ⟨HP.out, E2.out, E3.out⟩
      refine (implAddMod_any p ac cb _).mono ?_
      rw [numOf_yes hO, codeOf_yes hO]
      clear hO
      rintro e w5 ⟨rfl, hb⟩
      replace D := Lib.hid (chain D.out hb)
      clear hb
      obtain rfl : lf = (ac + cb) % p := HD.out
      have t5 : ((ac + cb) % p != (ac + cb) % p) = false := by simp
      have hp0 : p ≠ 0 := by omega
      by_cases ha0 : a = 0
      · subst ha0
        have HI := Lib.hid (invCode_zero ⟨HP.out, EA.out⟩)
        go_wp2_with fail
        refine (implInverseMod_any p 0 _).mono ?_
        rw [HI.out]
        rintro e w6 ⟨rfl, hb⟩
        replace D := Lib.hid (chain D.out hb)
        clear hb
        go_wp2_with fail
        go_ret
        exact ⟨rfl, D.out⟩
      · have ta : (a == 0) = false := by simp [ha0]
        have hO : InvOk p a := ⟨⟨HP.out, EA.out⟩, ha0⟩
        have HI := Lib.hid (invCode_yes hO.1 ha0)
        have HN := Lib.hid (numOf_yes (n := powOf p a (p - 2).toNat) hO)
        obtain ⟨u1, u2⟩ := units HP.out EA.out ha0
        have U1 := Lib.hid u1
        have U2 := Lib.hid u2
        have EX := Lib.hid (powOf_elem q2 a (p - 2).toNat)
        clear hO u1 u2 ha0
        go_wp2_with fail
        refine (implInverseMod_any p a _).mono ?_
        rw [HI.out, HN.out]
        rintro e w6 ⟨rfl, hb⟩
        replace D := Lib.hid (chain D.out hb)
        clear hb HN HI
        generalize powOf p a (p - 2).toNat = x at *
        go_wp2_with fail
        have hO : Prm p ∧ Elem p a ∧ Elem p x := ⟨HP.out, EA.out, EX.out⟩
        refine (implMulMod_any p a x _).mono ?_
        rw [numOf_yes hO, codeOf_yes hO, U1.out]
        clear hO
        rintro e w7 ⟨rfl, hb⟩
        replace D := Lib.hid (chain D.out hb)
        clear hb
        go_wp2_with fail
        have hO : PowOk p a (p - 1) := ⟨⟨HP.out, EA.out⟩, by omega, by omega⟩
        refine (implPowerMod_any p a (p - 1) _).mono ?_
        rw [numOf_yes hO, codeOf_yes hO, U2.out]
        clear hO
        rintro e w8 ⟨rfl, hb⟩
        replace D := Lib.hid (chain D.out hb)
        clear hb
        go_wp2_with fail
        go_ret
        exact ⟨rfl, D.out⟩

theorem own : ownKnob Try.prog.godebug = none := by kernel_rfl
theorem laidOut : laidOutB Try.prog = true := by kernel_rfl

set_option maxRecDepth 100000 in
theorem lifted (os : Os) (started : os.Started) (H : Type) (enc : TypeId × Value → H) :
    ReturnsInHanded {} Try.checked os 3 .any (Rows.fnFieldSpec.pre6 enc Try.prog Try.f3 Rows.fnFieldRow.domain false) (Rows.fnFieldSpec.post enc Try.prog Try.f3 false true false false) := by
  refine returnsInHanded_of_change (C := Try.checked) own started (by kernel_rfl) Try.func3
    (ChangeSpec.witness6 (enc := enc) (C := Try.checked) false ⟨#[], #[.slice none 0 0, .slice none 0 0], []⟩ 8 (by kernel_rfl) (by kernel_rfl) (by kernel_rfl) (by kernel_rfl)) ?_
  intro W base args ds gs before hval0 hW hcnd _
  have hval : ∀ (j : Nat) t v, Try.f3.params[j]? = some t → args[j]? = some v → Value.okWide Try.prog W .any base t v := hval0
  have hW' := hW
  obtain ⟨p, q, hA0, hV, rfl, hfz, hnd⟩ := hW
  have hA : DataW.TrodAll enc Try.prog W 0 (fun _ => true) true Try.f3.params.toList args.toList ds p := hA0
  rw [Try.params3] at hA hval
  obtain ⟨v0, vs0, d0, ds0, p0, q0, hargs, rfl, rfl, h0, r0⟩ := trodAll_cons hA
  obtain ⟨v1, vs1, d1, ds1, p1, q1, rfl, rfl, rfl, h1, r1⟩ := trodAll_cons r0
  obtain ⟨rfl, rfl, rfl⟩ := trodAll_nil r1
  obtain rfl : args = #[v0, v1] := by cases args; simp_all
  obtain ⟨rfl, rfl⟩ := trodVars_none hV
  have k0 := h0
  have lt0 : ∀ x ∈ p0, x.block < W.heap.size := by obtain ⟨m, hm⟩ := k0; exact DataW.trod_lt m _ _ _ hm
  obtain ⟨a0, len0, c0, rfl⟩ := okWide_slice Try.underlying22 (hval 0 22 v0 rfl rfl)
  obtain ⟨fuel0, hf0⟩ := h0
  obtain ⟨z0, rfl, rr0, ll0⟩ := open_bytes1 (by simpa [Value.cells] using hf0)
  have k1 := h1
  have lt1 : ∀ x ∈ p1, x.block < W.heap.size := by obtain ⟨m, hm⟩ := k1; exact DataW.trod_lt m _ _ _ hm
  obtain ⟨a1, len1, c1, rfl⟩ := okWide_slice Try.underlying22 (hval 1 22 v1 rfl rfl)
  obtain ⟨fuel1, hf1⟩ := h1
  obtain ⟨z1, rfl, rr1, ll1⟩ := open_bytes1 (by simpa [Value.cells] using hf1)
  clear hA0 hval0
  refine (law a0 z0 c0 a1 z1 c1 W rr0 ll0 rr1 ll1).mono fun e W' ⟨he, bel⟩ => ?_
  subst he
  exact ⟨_, rfl, _, _, _, [], _, [], hW', trodAll_mk1 (shut_bool Try.underlying4 _), (trodAll_cons_mk (Below.trod laidOut (by kernel_rfl) (of_decide_eq_true (by kernel_rfl)) k0 bel lt0) (trodAll_cons_mk (Below.trod laidOut (by kernel_rfl) (of_decide_eq_true (by kernel_rfl)) k1 bel lt1) trodAll_mk0)), rfl, bel.frame _, fun h => by cases h⟩

theorem over : Rows.fnFieldRow.holds Try.pinned (OpenSpec.ofChange Rows.fnFieldSpec) :=
  OpenClaim.holds_of_wide 3 Try.f3 rfl rfl rfl rfl rfl rfl rfl ⟨rfl, rfl, rfl, rfl, rfl⟩ rfl rfl rfl rfl rfl (by kernel_rfl) Try.func3 (by kernel_rfl)
    (of_decide_eq_true (by kernel_rfl)) (by unfold Func.isWrapper; first | (rw [if_pos (by decide +kernel)]; kernel_rfl) | (rw [if_neg (by decide +kernel)]; exact ⟨rfl, rfl⟩))
    (fun os started H enc _ => lifted os started H enc)

theorem proved : Rows.FnFieldSaid := over

end Field
end Go.Proofs.Ytnalbonnjcphkaa
