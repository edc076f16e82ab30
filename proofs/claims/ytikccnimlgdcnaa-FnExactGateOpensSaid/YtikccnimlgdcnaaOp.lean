/- Open gates: l02Open of the model, opens of the program's nodes. -/
import Derived.Test.YtikccnimlgdcnaaNd
import Derived.Test.YtikccnimlgdcnaaGk
namespace Go.Proofs.Ytikccnimlgdcnaa
open Go.RowKit Go.Deep
set_option linter.unusedVariables false

namespace Fo
/-- How many gates are open. -/
def opened (x : Nat) : Fo → Nat
  | nil => 0
  | cons h l k r => (match k with | nil => x.testBit h.toNat | cons a b c d => decide (l ≤ ((cons a b c d).opened x : Int))).toNat + r.opened x
/-- Whether a gate is open. -/
def gopen (x : Nat) (h l : Int) (k : Fo) : Bool := match k with | nil => x.testBit h.toNat | cons a b c d => decide (l ≤ ((cons a b c d).opened x : Int))
def opre (x : Nat) : Fo → Nat → Nat
  | nil, _ => 0
  | cons _ _ _ _, 0 => 0
  | cons h l k r, i + 1 => (gopen x h l k).toNat + r.opre x i
theorem opened_cons (x : Nat) (h l : Int) (k r : Fo) : (cons h l k r).opened x = (gopen x h l k).toNat + r.opened x := by
  cases k <;> rfl
theorem opre_zero (x : Nat) (f : Fo) : f.opre x 0 = 0 := by cases f <;> rfl
theorem opre_succ (x : Nat) (f : Fo) {i : Nat} (h : i < f.len) : f.opre x (i + 1) = f.opre x i + (gopen x (f.hAt i) (f.lAt i) (f.kAt i)).toNat := by
  induction f generalizing i with
  | nil => simp [len] at h
  | cons a l k r _ ih =>
    cases i with
    | zero => simp [opre, hAt, lAt, kAt, opre_zero]
    | succ i =>
      have := ih (i := i) (by simp [len] at h; omega)
      simp only [opre, hAt, lAt, kAt] at this ⊢
      omega
theorem opre_len (x : Nat) (f : Fo) : f.opre x f.len = f.opened x := by
  induction f with
  | nil => rfl
  | cons a l k r _ ih => rw [opened_cons]; simp only [len, opre, ih]
theorem opre_le (x : Nat) (f : Fo) (i : Nat) : f.opre x i ≤ f.size := by
  induction f generalizing i with
  | nil => simp [opre]
  | cons a l k r _ ih =>
    cases i with
    | zero => simp [opre]
    | succ i => have := ih i; simp only [opre, size]; have := Bool.toNat_le (gopen x a l k); omega
theorem gopen_some (x : Nat) (h l : Int) {k : Fo} (hk : 0 < k.len) : gopen x h l k = decide (l ≤ (k.opened x : Int)) := by
  cases k with
  | nil => simp [len] at hk
  | cons => rfl
end Fo
theorem sbit_fact : ∀ x : Nat, x < 128 → ∀ n : Nat, n < 7 → (bits BinOp.and IntKind.i64 ((x : Int) / 2 ^ n) 1 == 1) = x.testBit n := by decide +kernel

set_option maxRecDepth 100000 in
set_option maxHeartbeats 2000000 in
theorem l02Open_any : ∀ (m : Nat) (f : Fo), f.size < m → m ≤ 1048577 → ∀ (B pb po : Nat) (n h l : Int) (a : Option Addr) (c : Nat) (x : Nat) (w : World), x < 128 → n ≤ 7 → Fo.gform n h l f →
    w.cell? ⟨pb, po, none⟩ = some (.int .i64 h) → w.cell? ⟨pb, po + 1, none⟩ = some (.int .i64 l) → w.cell? ⟨pb, po + 2, none⟩ = some (.slice a f.len c) → Kids w B a f →
    Calls Try.prog 28 #[.pointer (some ⟨pb, po, none⟩), .int .i64 x] w fun e w' => e = .returned (.bool (Fo.gopen x h l f)) ∧ w = w' := by
  intro m
  induction m with
  | zero => exact fun f hf => absurd hf (Nat.not_lt_zero _)
  | succ m ih =>
    intro f hf hm B pb po n h l a c x w hx hn hg p0 p1 p2 hk
    by_cases hz : f.len = 0
    · have hzn := Fo.len_zero hz
      subst hzn
      clear hz
      obtain ⟨g0, g1, g2⟩ := gform_nil.1 hg
      obtain ⟨q, rfl⟩ : ∃ q : Nat, h = (q : Int) := ⟨h.toNat, by omega⟩
      have hq : q < 7 := by omega
      have hb := Lib.hid (sbit_fact x hx q hq)
      clear hg
      go_enter Try.func28, Try.ntmps28
      go_wp2_with fail
      go_ret
      exact ⟨ret_bool (by rw [hb.out]; rfl), rfl⟩
    have hpos : 0 < f.len := by omega
    have s0 : (f.len == 0) = false := by simp; omega
    have s1 : ((f.len : Int) == 0) = false := by simp; omega
    have hlen := f.len_le
    have HIH := Lib.hid ih
    have HK := Lib.hid hk
    have HG := Lib.hid ((gform_some hpos).1 hg).2.2.2
    have HR := Lib.hid (Fo.gopen_some x h l hpos)
    clear ih hk hg hz
    go_enter Try.func28, Try.ntmps28
    go_wp2_with fail
    go_loop [5, 6] (fun u i => ∃ (k : Nat), k ≤ f.len ∧ i = .int .i64 k ∧ u = .int .i64 (f.opre x k : Int))
      (fun _ i => f.len - (intOf i).toNat)
    case atStart => exact ⟨0, Nat.zero_le _, rfl, by rw [f.opre_zero x]; rfl⟩
    case round =>
      obtain ⟨k, hk, rfl, rfl⟩ := hrel
      have hpk := f.opre_le x k
      by_cases hlt : k < f.len
      · rcases HK.out with h | ⟨b, o, rfl, hB, hF⟩
        · rw [h] at hlt; exact absurd hlt (Nat.not_lt_zero _)
        obtain ⟨g1, g2, ai, ci, g3, g4⟩ := hF.get hlt
        have HGC := Lib.hid (And.intro g1 (And.intro g2 (And.intro g3 g4)))
        have hs := f.k_size hlt
        have hp := Lib.hid (f.opre_succ x hlt)
        have HF := Lib.hid (Fo.form_get HG.out hlt)
        clear g1 g2 g3 g4 hF
        have hi0 : (k : Int) < (f.len : Int) := by omega
        generalize f.hAt k = gh at *
        generalize f.lAt k = gl at *
        generalize f.kAt k = gk at *
        go_wp2_with fail
        refine (HIH.out gk (by omega) (by omega) B b (o + k * 3) n gh gl ai ci x w hx hn HF.out HGC.out.1 HGC.out.2.1 HGC.out.2.2.1 HGC.out.2.2.2).mono ?_
        rintro e w1 ⟨rfl, rfl⟩
        cases hgo : Fo.gopen x gh gl gk with
        | true =>
          have HP := Lib.hid (show f.opre x (k + 1) = f.opre x k + 1 by rw [hp.out, hgo]; rfl)
          clear hgo
          go_wp2_with fail
          go_round
          case rel => exact ⟨k + 1, by omega, by go_num, by rw [HP.out]; go_num⟩
          case measure => simp [intOf]; omega
        | false =>
          have HP := Lib.hid (show f.opre x (k + 1) = f.opre x k by rw [hp.out, hgo]; rfl)
          clear hgo
          go_wp2_with fail
          go_round
          case rel => exact ⟨k + 1, by omega, by go_num, by rw [HP.out]⟩
          case measure => simp [intOf]; omega
      · have hE : k = f.len := by omega
        have HO := Lib.hid (f.opre_len x)
        go_wp2_with fail
        go_ret
        exact ⟨ret_bool (by first | rw [HR.out, ← HO.out, hE] | rw [HR.out, ← HO.out]), rfl⟩

set_option maxRecDepth 100000 in
theorem leafOpens_any (h : Int) (x : Nat) (w : World) (hx : x < 128) (h0 : 0 ≤ h) (h1 : h ≤ 6) :
    Calls Try.prog 61 #[.agg #[.int .i64 h], .int .u64 x] w fun e w' => e = .returned (.bool (x.testBit h.toNat)) ∧ Below w.heap.size w w' := by
  have HB := Lib.hid ((Below.refl w.heap.size w).alloc (Nat.le_refl _) (.cells #[.int .i64 h] 72))
  go_enter Try.func61, Try.ntmps61
  go_wp2_with fail
  refine (has_any x h _ hx h0 h1).mono ?_
  rintro e w1 ⟨rfl, rfl⟩
  go_wp2_with fail
  go_ret
  exact ⟨rfl, HB.out⟩

set_option maxRecDepth 100000 in
set_option maxHeartbeats 2000000 in
theorem thrOpens_any : ∀ (m : Nat) (f : Fo), f.size < m → m ≤ 1048577 → ∀ (ok : Nat → Prop) (b o : Nat) (n l : Int) (c : Nat) (x : Nat) (w : World), x < 128 → n ≤ 7 → 0 < f.len → f.form n → ok b → NAt w ok f b o →
    Calls Try.prog 66 #[.agg #[.int .i64 l, .slice (some ⟨b, o, none⟩) f.len c], .int .u64 x] w fun e w' => e = .returned (.bool (decide (l ≤ (f.opened x : Int)))) ∧ Below w.heap.size w w' := by
  intro m
  induction m with
  | zero => exact fun f hf => absurd hf (Nat.not_lt_zero _)
  | succ m ih =>
    intro f hf hm ok b o n l c x w hx hn hpos hfo hob hna
    have hlen := f.len_le
    have HIH := Lib.hid ih
    have HF := Lib.hid hfo
    have HNA := Lib.hid hna
    have hb := (Below.refl w.heap.size w).alloc (Nat.le_refl _) (.cells #[.int .i64 l, .slice (some ⟨b, o, none⟩) f.len c] 75)
    have hxb : Boxes (w.alloc (.cells #[.int .i64 l, .slice (some ⟨b, o, none⟩) f.len c] 75)) w.heap.size 75 #[.int .i64 l, .slice (some ⟨b, o, none⟩) f.len c] := World.alloc_heap_new _ _
    clear ih hfo hna
    go_enter Try.func66, Try.ntmps66
    go_wp2_with fail
    generalize w.alloc (.cells #[.int .i64 l, .slice (some ⟨b, o, none⟩) f.len c] 75) = w1 at *
    have HX1 := Lib.hid hxb
    have HB1 := Lib.hid hb
    clear hxb hb
    go_loopw [5, 7, 11] (fun u _ i wr => ∃ (k : Nat), k ≤ f.len ∧ i = .int .i64 k ∧ u = .int .i64 (f.opre x k : Int) ∧ Boxes wr w.heap.size 75 #[.int .i64 l, .slice (some ⟨b, o, none⟩) f.len c] ∧ Below w.heap.size w wr)
      (fun _ _ i _ => f.len - (intOf i).toNat)
    case atStart => exact ⟨0, Nat.zero_le _, rfl, by rw [f.opre_zero x]; rfl, HX1.out, HB1.out⟩
    case round =>
      obtain ⟨k, hk, rfl, rfl, hx2, hb2⟩ := hrel
      have HX := Lib.hid hx2
      have HB := Lib.hid hb2
      have c0 := hx2.n0
      have c1 := hx2.n1
      have cl := hx2.lt
      clear hx2 hb2 HX1 HB1
      have hpk := f.opre_le x k
      by_cases hlt : k < f.len
      · obtain ⟨v, h1, h2⟩ := HNA.out.get hlt
        have h1' := cell_step HB.out h1
        have hs := f.k_size hlt
        have hp := Lib.hid (f.opre_succ x hlt)
        have HGF := Lib.hid (Fo.form_get HF.out hlt)
        have hi0 : (k : Int) < (f.len : Int) := by omega
        clear h1
        generalize f.hAt k = gh at *
        generalize f.lAt k = gl at *
        generalize f.kAt k = gk at *
        rcases h2 with ⟨rfl, rfl⟩ | ⟨hne, b', o', c', rfl, hob', hna'⟩
        · obtain ⟨g0, g1, g2⟩ := gform_nil.1 HGF.out
          go_wp2_with fail
          refine (leafOpens_any gh x _ hx g1 (by omega)).mono ?_
          rintro e w4 ⟨rfl, hb4⟩
          have HX4 := Lib.hid (HX.out.step hb4)
          have HB4 := Lib.hid (HB.out.trans (hb4.mono HB.out.size))
          clear hb4 h1' c0 c1 cl
          cases hgo : Fo.gopen x gh gl .nil with
          | true =>
            have HP := Lib.hid (show f.opre x (k + 1) = f.opre x k + 1 by rw [hp.out, hgo]; rfl)
            have HT := Lib.hid (show x.testBit gh.toNat = true from hgo)
            clear hgo
            try rw [HT.out]
            go_wp2_with fail
            go_roundw
            case rel => exact ⟨k + 1, by omega, by go_num, by rw [HP.out]; go_num, HX4.out, HB4.out⟩
            case measure => simp [intOf]; omega
          | false =>
            have HP := Lib.hid (show f.opre x (k + 1) = f.opre x k by rw [hp.out, hgo]; rfl)
            have HT := Lib.hid (show x.testBit gh.toNat = false from hgo)
            clear hgo
            try rw [HT.out]
            go_wp2_with fail
            go_roundw
            case rel => exact ⟨k + 1, by omega, by go_num, by rw [HP.out], HX4.out, HB4.out⟩
            case measure => simp [intOf]; omega
        · have hkp : 0 < gk.len := by
            cases gk with
            | nil => exact absurd rfl hne
            | cons => exact Nat.succ_pos _
          have HNK := Lib.hid ((hna'.map (W' := wr) (ok' := ok) (fun b o v q hc => ⟨q, cell_step HB.out hc⟩) hob'))
          have HFK := Lib.hid (((gform_some hkp).1 HGF.out).2.2.2)
          have HGS := Lib.hid (Fo.gopen_some x gh gl hkp)
          clear hna' hne
          go_wp2_with fail
          refine (HIH.out gk (by omega) (by omega) ok b' o' n gl c' x _ hx hn hkp HFK.out hob' HNK.out).mono ?_
          rintro e w4 ⟨rfl, hb4⟩
          rw [← HGS.out]
          have HX4 := Lib.hid (HX.out.step hb4)
          have HB4 := Lib.hid (HB.out.trans (hb4.mono HB.out.size))
          clear hb4 h1' c0 c1 cl
          cases hgo : Fo.gopen x gh gl gk with
          | true =>
            have HP := Lib.hid (show f.opre x (k + 1) = f.opre x k + 1 by rw [hp.out, hgo]; rfl)
            have HT := Lib.hid (show Fo.gopen x gh gl gk = true from hgo)
            clear hgo
            try rw [HT.out]
            go_wp2_with fail
            go_roundw
            case rel => exact ⟨k + 1, by omega, by go_num, by rw [HP.out]; go_num, HX4.out, HB4.out⟩
            case measure => simp [intOf]; omega
          | false =>
            have HP := Lib.hid (show f.opre x (k + 1) = f.opre x k by rw [hp.out, hgo]; rfl)
            have HT := Lib.hid (show Fo.gopen x gh gl gk = false from hgo)
            clear hgo
            try rw [HT.out]
            go_wp2_with fail
            go_roundw
            case rel => exact ⟨k + 1, by omega, by go_num, by rw [HP.out], HX4.out, HB4.out⟩
            case measure => simp [intOf]; omega
      · have hE : k = f.len := by omega
        have HO := Lib.hid (f.opre_len x)
        go_wp2_with fail
        go_ret
        exact ⟨ret_bool (by first | rw [← HO.out, hE] | rw [← HO.out]), HB.out⟩
end Go.Proofs.Ytikccnimlgdcnaa
