/- Gates that a call has made: where they lie, marks on them, and what is held. -/
import Derived.Test.YtjhggglaglpgfaaTm
namespace Go.Proofs.Ytjhggglaglpgfaa
open Go.RowKit Go.Deep
set_option linter.unusedVariables false

/-- Gates in a slice's cells; the kids of each one lie in blocks of their own, those of earlier ones before those of later ones. -/
def OAt (W : World) : Fo → Nat → Nat → Nat → Nat → Prop
  | .nil, _, _, _, _ => True
  | .cons h l k r, lo, hi, b, o => (W.cell? ⟨b, o, none⟩ = some (.int .i64 h) ∧ W.frozen? ⟨b, o, none⟩ = false) ∧ (W.cell? ⟨b, o + 1, none⟩ = some (.int .i64 l) ∧ W.frozen? ⟨b, o + 1, none⟩ = false) ∧
      ∃ mid, lo ≤ mid ∧ mid ≤ hi ∧ (∃ (a : Option Addr) (c : Nat), W.cell? ⟨b, o + 2, none⟩ = some (.slice a k.len c) ∧ (k = .nil ∨ ∃ b', a = some ⟨b', 0, none⟩ ∧ lo ≤ b' ∧ b' < mid ∧ OAt W k (b' + 1) mid b' 0)) ∧ OAt W r mid hi b (o + 3)
/-- Gates that a call has made, in blocks from lo on and before hi. -/
def OG (W : World) (lo hi : Nat) (a : Option Addr) (f : Fo) : Prop := f = .nil ∨ ∃ b', a = some ⟨b', 0, none⟩ ∧ lo ≤ b' ∧ b' < hi ∧ OAt W f (b' + 1) hi b' 0
theorem OAt.fat {W : World} {B : Nat} : ∀ {f : Fo} {lo hi b o : Nat}, OAt W f lo hi b o → B ≤ lo → FAt W B f b o := by
  intro f
  induction f with
  | nil => exact fun _ _ => trivial
  | cons h l k r ihk ihr =>
    intro lo hi b o ⟨h1, h2, mid, hm1, hm2, ⟨a, c, h3, h4⟩, h5⟩ hB
    refine ⟨h1.1, h2.1, ⟨a, c, h3, ?_⟩, ihr h5 (by omega)⟩
    rcases h4 with h4 | ⟨b', e, h6, h7, h8⟩
    · exact .inl h4
    · exact .inr ⟨b', 0, e, by omega, ihk h8 (by omega)⟩
theorem OG.kids {W : World} {lo hi B : Nat} {a : Option Addr} {f : Fo} (h : OG W lo hi a f) (hB : B ≤ lo) : Kids W B a f := by
  rcases h with h | ⟨b', e, h1, h2, h3⟩
  · exact .inl h
  · exact .inr ⟨b', 0, e, by omega, h3.fat (by omega)⟩
theorem OAt.get {W : World} : ∀ {f : Fo} {lo hi b o : Nat}, OAt W f lo hi b o → lo ≤ hi → ∃ s : Nat → Nat, s 0 = lo ∧ s f.len ≤ hi ∧ (∀ i, i < f.len → s i ≤ s (i + 1)) ∧ ∀ i, i < f.len →
    (W.cell? ⟨b, o + i * 3, none⟩ = some (.int .i64 (f.hAt i)) ∧ W.frozen? ⟨b, o + i * 3, none⟩ = false) ∧ (W.cell? ⟨b, o + i * 3 + 1, none⟩ = some (.int .i64 (f.lAt i)) ∧ W.frozen? ⟨b, o + i * 3 + 1, none⟩ = false) ∧
      ∃ (a : Option Addr) (c : Nat), W.cell? ⟨b, o + i * 3 + 2, none⟩ = some (.slice a (f.kAt i).len c) ∧ OG W (s i) (s (i + 1)) a (f.kAt i) := by
  intro f
  induction f with
  | nil => exact fun {lo hi b o} _ hl => ⟨fun _ => lo, rfl, hl, fun i hi => absurd hi (Nat.not_lt_zero _), fun i hi => absurd hi (Nat.not_lt_zero _)⟩
  | cons h l k r _ ihr =>
    intro lo hi b o ⟨h1, h2, mid, hm1, hm2, ⟨a, c, h3, h4⟩, h5⟩ hl
    obtain ⟨s, s0, s1, s2, s3⟩ := ihr h5 hm2
    refine ⟨fun i => match i with | 0 => lo | i + 1 => s i, rfl, s1, ?_, ?_⟩
    · intro i hi
      cases i with
      | zero => show lo ≤ s 0; omega
      | succ i => exact s2 i (by simp [Fo.len] at hi; omega)
    · intro i hi
      cases i with
      | zero =>
        simp only [Nat.zero_mul, Nat.add_zero, Fo.hAt, Fo.lAt, Fo.kAt]
        refine ⟨h1, h2, a, c, h3, ?_⟩
        rw [s0]
        exact h4
      | succ i =>
        have := s3 i (by simp [Fo.len] at hi; omega)
        rw [show o + 3 + i * 3 = o + (i + 1) * 3 by omega] at this
        exact this
theorem OAt.of {W : World} : ∀ {f : Fo} {lo hi b o : Nat} (s : Nat → Nat), s 0 = lo → s f.len ≤ hi → (∀ i, i < f.len → s i ≤ s (i + 1)) → (∀ i, i < f.len →
    (W.cell? ⟨b, o + i * 3, none⟩ = some (.int .i64 (f.hAt i)) ∧ W.frozen? ⟨b, o + i * 3, none⟩ = false) ∧ (W.cell? ⟨b, o + i * 3 + 1, none⟩ = some (.int .i64 (f.lAt i)) ∧ W.frozen? ⟨b, o + i * 3 + 1, none⟩ = false) ∧
      ∃ (a : Option Addr) (c : Nat), W.cell? ⟨b, o + i * 3 + 2, none⟩ = some (.slice a (f.kAt i).len c) ∧ OG W (s i) (s (i + 1)) a (f.kAt i)) → OAt W f lo hi b o := by
  intro f
  induction f with
  | nil => exact fun _ _ _ _ _ => trivial
  | cons h l k r _ ihr =>
    intro lo hi b o s s0 s1 s2 s3
    have h0 := s3 0 (by simp [Fo.len])
    simp only [Nat.zero_mul, Nat.add_zero, Fo.hAt, Fo.lAt, Fo.kAt] at h0
    have hmono : ∀ j i, i + j ≤ (Fo.cons h l k r).len → s i ≤ s (i + j) := by
      intro j
      induction j with
      | zero => exact fun i _ => Nat.le_refl _
      | succ j ih => exact fun i hi => Nat.le_trans (ih i (by omega)) (s2 (i + j) (by omega))
    have hm := hmono r.len 1 (by show 1 + r.len ≤ r.len + 1; omega)
    have s1' : s (r.len + 1) ≤ hi := s1
    rw [Nat.add_comm 1] at hm
    have h01 : s 0 ≤ s 1 := s2 0 (by simp [Fo.len])
    refine ⟨h0.1, h0.2.1, s 1, by omega, ?_, ?_, ?_⟩
    · omega
    · obtain ⟨a, c, h3, h4⟩ := h0.2.2
      refine ⟨a, c, h3, ?_⟩
      rw [s0] at h4
      exact h4
    · refine ihr (fun i => s (i + 1)) rfl s1 (fun i hi => s2 (i + 1) (by simp [Fo.len]; omega)) fun i hi => ?_
      have := s3 (i + 1) (by simp [Fo.len]; omega)
      rw [show o + (i + 1) * 3 = o + 3 + i * 3 by omega] at this
      exact this
theorem OAt.map {W W' : World} : ∀ {f : Fo} {lo hi b o : Nat}, OAt W f lo hi b o → b < lo → (∀ (q : Nat) (o : Nat) (v : Value), (q = b ∨ (lo ≤ q ∧ q < hi)) → W.cell? ⟨q, o, none⟩ = some v → W'.cell? ⟨q, o, none⟩ = some v ∧ W'.frozen? ⟨q, o, none⟩ = W.frozen? ⟨q, o, none⟩) → OAt W' f lo hi b o := by
  intro f
  induction f with
  | nil => exact fun _ _ _ => trivial
  | cons h l k r ihk ihr =>
    intro lo hi b o ⟨h1, h2, mid, hm1, hm2, ⟨a, c, h3, h4⟩, h5⟩ hb hk
    have q1 := hk b o _ (.inl rfl) h1.1
    have q2 := hk b (o + 1) _ (.inl rfl) h2.1
    refine ⟨⟨q1.1, q1.2.trans h1.2⟩, ⟨q2.1, q2.2.trans h2.2⟩, mid, hm1, hm2, ⟨a, c, (hk b (o + 2) _ (.inl rfl) h3).1, ?_⟩, ihr h5 (by omega) fun q o v hq => hk q o v (by omega)⟩
    rcases h4 with h4 | ⟨b', e, h6, h7, h8⟩
    · exact .inl h4
    · exact .inr ⟨b', e, h6, h7, ihk h8 (Nat.lt_succ_self _) fun q o v hq => hk q o v (by omega)⟩
theorem OG.map {W W' : World} {lo hi : Nat} {a : Option Addr} {f : Fo} (h : OG W lo hi a f) (hk : ∀ (q : Nat) (o : Nat) (v : Value), lo ≤ q → q < hi → W.cell? ⟨q, o, none⟩ = some v → W'.cell? ⟨q, o, none⟩ = some v ∧ W'.frozen? ⟨q, o, none⟩ = W.frozen? ⟨q, o, none⟩) : OG W' lo hi a f := by
  rcases h with h | ⟨b', e, h1, h2, h3⟩
  · exact .inl h
  · exact .inr ⟨b', e, h1, h2, h3.map (Nat.lt_succ_self _) fun q o v hq => hk q o v (by omega) (by omega)⟩
theorem OG.step {W W' : World} {lo hi : Nat} {a : Option Addr} {f : Fo} (h : OG W lo hi a f) (hb : Below W.heap.size W W') : OG W' lo hi a f := h.map fun q o v _ _ hc => ⟨cell_step hb hc, hb.frozen (World.block_lt_of_cell? _ _ hc)⟩
theorem OG.mono {W : World} {lo hi lo' hi' : Nat} {a : Option Addr} {f : Fo} (h : OG W lo hi a f) (h1 : lo' ≤ lo) (h2 : hi ≤ hi') : OG W lo' hi' a f := by
  have key : ∀ (f : Fo) (lo hi b o hi' : Nat), OAt W f lo hi b o → hi ≤ hi' → OAt W f lo hi' b o := by
    intro f
    induction f with
    | nil => exact fun _ _ _ _ _ _ _ => trivial
    | cons h l k r _ ihr =>
      intro lo hi b o hi' ⟨h1, h2, mid, hm1, hm2, h3, h5⟩ hh
      exact ⟨h1, h2, mid, hm1, by omega, h3, ihr _ _ _ _ _ h5 hh⟩
  rcases h with h | ⟨b', e, h3, h4, h5⟩
  · exact .inl h
  · exact .inr ⟨b', e, by omega, by omega, key _ _ _ _ _ _ h5 h2⟩
theorem OG.nil (W : World) (lo hi : Nat) (a : Option Addr) : OG W lo hi a .nil := .inl rfl

namespace Fo
/-- Gates that have been marked, from k on. -/
def mk (k : Int) : Fo → Fo
  | nil => nil
  | cons _ _ kk r => cons k (k + 1) (kk.mk (k + 2)) (r.mk (k + 2 + 2 * (kk.size : Int)))
theorem mk_len (k : Int) (f : Fo) : (f.mk k).len = f.len := by
  induction f generalizing k with
  | nil => rfl
  | cons h l kk r _ ihr => simp only [mk, len, ihr]
theorem mk_get (k : Int) (f : Fo) {i : Nat} (h : i < f.len) : (f.mk k).hAt i = k + 2 * (f.pre i : Int) ∧ (f.mk k).lAt i = k + 2 * (f.pre i : Int) + 1 ∧ (f.mk k).kAt i = (f.kAt i).mk (k + 2 * (f.pre i : Int) + 2) := by
  induction f generalizing k i with
  | nil => simp [len] at h
  | cons a l kk r _ ihr =>
    cases i with
    | zero => simp [mk, hAt, lAt, kAt, pre]
    | succ i =>
      have := ihr (k := k + 2 + 2 * (kk.size : Int)) (i := i) (by simp [len] at h; omega)
      simp only [mk, hAt, lAt, kAt, pre]
      have e : k + 2 + 2 * (kk.size : Int) + 2 * (r.pre i : Int) = k + 2 * ((kk.size + 1 + r.pre i : Nat) : Int) := by omega
      rw [e] at this
      exact this
end Fo
theorem touch_put (b o : Nat) (v : Value) (w : World) {lo hi : Nat} (h1 : lo ≤ b) (h2 : b < hi) : Touch lo hi w (w.setCell ⟨b, o, none⟩ v) := ⟨rfl, rfl, rfl, by simp, fun k _ hk => Below.heap_setCell _ _ _ k (fun e => by simp at e; omega)⟩
theorem Touch.wide {lo hi lo' hi' : Nat} {w w' : World} (h : Touch lo hi w w') (h1 : lo' ≤ lo) (h2 : hi ≤ hi') : Touch lo' hi' w w' := ⟨h.os, h.tape, h.output, h.size, fun k hk hq => h.block k hk (by omega)⟩
theorem Touch.fz {lo hi : Nat} {w w' : World} (h : Touch lo hi w w') {b o : Nat} {v : Value} (hc : w.cell? ⟨b, o, none⟩ = some v) (hb : b < lo ∨ hi ≤ b) : w'.frozen? ⟨b, o, none⟩ = w.frozen? ⟨b, o, none⟩ := by
  have := h.block b (World.block_lt_of_cell? _ _ hc) hb
  simp [World.frozen?, this]
theorem OG.touch {W W' : World} {lo hi l2 h2 : Nat} {a : Option Addr} {f : Fo} (h : OG W lo hi a f) (ht : Touch l2 h2 W W') (hd : hi ≤ l2 ∨ h2 ≤ lo) : OG W' lo hi a f := h.map fun q o v h1 h3 hc => ⟨ht.cell hc (by omega), ht.fz hc (by omega)⟩

/-- What lies at a place of gates that are being marked. -/
def PutAt (W : World) (b : Nat) (A : Nat → Option Addr) (C : Nat → Nat) (s : Nat → Nat) (f : Fo) (i : Nat) (h l : Int) (k : Fo) : Prop :=
  (W.cell? ⟨b, i * 3, none⟩ = some (.int .i64 h) ∧ W.frozen? ⟨b, i * 3, none⟩ = false) ∧ (W.cell? ⟨b, i * 3 + 1, none⟩ = some (.int .i64 l) ∧ W.frozen? ⟨b, i * 3 + 1, none⟩ = false) ∧
    W.cell? ⟨b, i * 3 + 2, none⟩ = some (.slice (A i) (f.kAt i).len (C i)) ∧ OG W (s i) (s (i + 1)) (A i) k
theorem PutAt.step {W W' : World} {b : Nat} {A : Nat → Option Addr} {C : Nat → Nat} {s : Nat → Nat} {f : Fo} {i : Nat} {h l : Int} {k : Fo} (hp : PutAt W b A C s f i h l k) {l2 h2 : Nat} (ht : Touch l2 h2 W W') (hb : b < l2 ∨ h2 ≤ b) (hd : s (i + 1) ≤ l2 ∨ h2 ≤ s i) : PutAt W' b A C s f i h l k := by
  obtain ⟨h1, h3, h4, h5⟩ := hp
  exact ⟨⟨ht.cell h1.1 hb, (ht.fz h1.1 hb).trans h1.2⟩, ⟨ht.cell h3.1 hb, (ht.fz h3.1 hb).trans h3.2⟩, ht.cell h4 hb, h5.touch ht hd⟩
theorem PutAt.put {W : World} {b : Nat} {A : Nat → Option Addr} {C : Nat → Nat} {s : Nat → Nat} {f : Fo} {i : Nat} {h l : Int} {k : Fo} (hp : PutAt W b A C s f i h l k) (hbs : b < s i) {o : Nat} (v : Value) (ho : o ≠ i * 3 ∧ o ≠ i * 3 + 1 ∧ o ≠ i * 3 + 2) : PutAt (W.setCell ⟨b, o, none⟩ v) b A C s f i h l k := by
  obtain ⟨h1, h3, h4, h5⟩ := hp
  have ne : ∀ q, o ≠ q → (W.setCell ⟨b, o, none⟩ v).cell? ⟨b, q, none⟩ = W.cell? ⟨b, q, none⟩ := fun q hq => World.cell?_setCell_other _ _ _ _ (fun e => hq (by simpa using congrArg Addr.off e))
  exact ⟨⟨(ne _ ho.1).trans h1.1, (World.frozen?_setCell _ _ _ _).trans h1.2⟩, ⟨(ne _ ho.2.1).trans h3.1, (World.frozen?_setCell _ _ _ _).trans h3.2⟩, (ne _ ho.2.2).trans h4, h5.touch (touch_put b o v W (Nat.le_refl b) (Nat.lt_succ_self b)) (.inr hbs)⟩

set_option maxRecDepth 100000 in
set_option maxHeartbeats 4000000 in
theorem markOG_any : ∀ (m : Nat) (f : Fo), f.size < m → m ≤ 1048577 → ∀ (lo hi : Nat) (a : Option Addr) (c : Nat) (k0 : Int) (w : World), OG w lo hi a f → 0 ≤ k0 → k0 + 2 * (f.size : Int) ≤ 8388608 →
    Calls Try.prog 34 #[.slice a f.len c, .int .i64 k0] w fun e w' => e = .returned (.int .i64 (k0 + 2 * (f.size : Int))) ∧ OG w' lo hi a (f.mk k0) ∧ Touch lo hi w w' ∧ w'.heap.size = w.heap.size := by
  intro m
  induction m with
  | zero => exact fun f hf => absurd hf (Nat.not_lt_zero _)
  | succ m ih =>
    intro f hf hm lo hi a c k0 w hk hk0 hk1
    have hlen := f.len_le
    rcases hk with hnil | ⟨b, rfl, hlb, hbh, hO⟩
    · subst hnil
      go_enter Try.func34, Try.ntmps34
      go_wp2_with fail
      go_loopw [1, 5] (fun q i wr => i = .int .i64 0 ∧ q = .int .i64 k0 ∧ wr = w)
        (fun _ i _ => 0)
      case atStart => exact ⟨rfl, rfl, rfl⟩
      case round =>
        obtain ⟨rfl, rfl, rfl⟩ := hrel
        go_wp2_with fail
        go_ret
        exact ⟨by simp [Fo.size], .inl rfl, Touch.refl _ _ _, rfl⟩
    obtain ⟨s, hs0, hs1, hs2, hs3⟩ := hO.get (by omega)
    have hA : ∃ (A : Nat → Option Addr) (C : Nat → Nat), ∀ i, i < f.len → PutAt w b A C s f i (f.hAt i) (f.lAt i) (f.kAt i) := by
      have each : ∀ i, ∃ p : Option Addr × Nat, i < f.len → PutAt w b (fun _ => p.1) (fun _ => p.2) s f i (f.hAt i) (f.lAt i) (f.kAt i) := fun i => by
        by_cases hi : i < f.len
        · obtain ⟨h1, h2, a, c, h3, h4⟩ := hs3 i hi
          simp only [Nat.zero_add] at h1 h2 h3
          exact ⟨(a, c), fun _ => ⟨h1, h2, h3, h4⟩⟩
        · exact ⟨(none, 0), fun h => absurd h hi⟩
      obtain ⟨P, hP⟩ := Classical.axiomOfChoice each
      exact ⟨fun i => (P i).1, fun i => (P i).2, fun i hi => hP i hi⟩
    obtain ⟨A, C, hP⟩ := hA
    have hmono : ∀ j i, i + j ≤ f.len → s i ≤ s (i + j) := by
      intro j
      induction j with
      | zero => exact fun i _ => Nat.le_refl _
      | succ j ih => exact fun i hi => Nat.le_trans (ih i (by omega)) (hs2 (i + j) (by omega))
    have HMO := Lib.hid (show ∀ i j, i ≤ j → j ≤ f.len → s i ≤ s j from fun i j h1 h2 => by have := hmono (j - i) i (by omega); rwa [show i + (j - i) = j by omega] at this)
    have HS0 := Lib.hid hs0
    have HS1 := Lib.hid hs1
    have HIH := Lib.hid ih
    have HP := Lib.hid hP
    have HMK := Lib.hid (fun i (h : i < f.len) => Fo.mk_get k0 f h)
    have HML := Lib.hid (Fo.mk_len k0 f)
    clear hs0 hs1 hs2 hs3 hO ih hP hmono
    go_enter Try.func34, Try.ntmps34
    go_wp2_with fail
    go_loopw [1, 5] (fun q i wr => ∃ (k : Nat) (u : Int), k ≤ f.len ∧ i = .int .i64 k ∧ q = .int .i64 u ∧ u = k0 + 2 * (f.pre k : Int) ∧ (∀ i, i < k → PutAt wr b A C s f i (k0 + 2 * (f.pre i : Int)) (k0 + 2 * (f.pre i : Int) + 1) ((f.kAt i).mk (k0 + 2 * (f.pre i : Int) + 2))) ∧ (∀ i, k ≤ i → i < f.len → PutAt wr b A C s f i (f.hAt i) (f.lAt i) (f.kAt i)) ∧ Touch lo hi w wr ∧ wr.heap.size = w.heap.size)
      (fun _ i _ => f.len - (intOf i).toNat)
    case atStart => exact ⟨0, k0, Nat.zero_le _, rfl, rfl, by rw [f.pre_zero]; omega, fun i hi => absurd hi (Nat.not_lt_zero _), fun i _ h => HP.out i h, Touch.refl _ _ _, rfl⟩
    case round =>
      obtain ⟨k, u, hk, rfl, rfl, hu, hd, hr, ht, hz⟩ := hrel
      have hpk := f.pre_le k
      have hu0 : 0 ≤ u := by omega
      have hu1 : u ≤ 8388608 := by omega
      have HU := Lib.hid hu
      have HD := Lib.hid hd
      have HR := Lib.hid hr
      have HT := Lib.hid ht
      have HZ := Lib.hid hz
      clear hu hd hr ht hz
      by_cases hlt : k < f.len
      · obtain ⟨⟨g1, f1⟩, ⟨g2, f2⟩, g3, g4⟩ := HR.out k (Nat.le_refl _) hlt
        have hb0 := HS0.out
        have hsk : b < s k := by have := HMO.out 0 k (Nat.zero_le _) hk; omega
        have hsk1 : s k ≤ s (k + 1) := HMO.out k (k + 1) (by omega) (by omega)
        have hskh : s (k + 1) ≤ hi := by have := HMO.out (k + 1) f.len (by omega) (Nat.le_refl _); have := HS1.out; omega
        have g2' : (wr.setCell ⟨b, k * 3, none⟩ (.int .i64 u)).cell? ⟨b, k * 3 + 1, none⟩ = some (.int .i64 (f.lAt k)) := (World.cell?_setCell_other _ _ _ _ (by simp)).trans g2
        have q1 : ((wr.setCell ⟨b, k * 3, none⟩ (.int .i64 u)).setCell ⟨b, k * 3 + 1, none⟩ (.int .i64 (u + 1))).cell? ⟨b, k * 3, none⟩ = some (.int .i64 u) := (World.cell?_setCell_other _ _ _ _ (by simp)).trans (World.cell?_setCell_same _ _ _ g1)
        have q2 : ((wr.setCell ⟨b, k * 3, none⟩ (.int .i64 u)).setCell ⟨b, k * 3 + 1, none⟩ (.int .i64 (u + 1))).cell? ⟨b, k * 3 + 1, none⟩ = some (.int .i64 (u + 1)) := World.cell?_setCell_same _ _ _ g2'
        have q3 : ((wr.setCell ⟨b, k * 3, none⟩ (.int .i64 u)).setCell ⟨b, k * 3 + 1, none⟩ (.int .i64 (u + 1))).cell? ⟨b, k * 3 + 2, none⟩ = some (.slice (A k) (f.kAt k).len (C k)) := (World.cell?_setCell_other _ _ _ _ (by simp)).trans ((World.cell?_setCell_other _ _ _ _ (by simp)).trans g3)
        have t1 : Touch b (b + 1) wr ((wr.setCell ⟨b, k * 3, none⟩ (.int .i64 u)).setCell ⟨b, k * 3 + 1, none⟩ (.int .i64 (u + 1))) := (touch_put b _ _ _ (Nat.le_refl _) (Nat.lt_succ_self _)).trans (touch_put b _ _ _ (Nat.le_refl _) (Nat.lt_succ_self _))
        have HD2 := Lib.hid (show ∀ i, i < k → PutAt ((wr.setCell ⟨b, k * 3, none⟩ (.int .i64 u)).setCell ⟨b, k * 3 + 1, none⟩ (.int .i64 (u + 1))) b A C s f i (k0 + 2 * (f.pre i : Int)) (k0 + 2 * (f.pre i : Int) + 1) ((f.kAt i).mk (k0 + 2 * (f.pre i : Int) + 2)) from fun i hi => by
          have hbi : b < s i := by have := HMO.out 0 i (Nat.zero_le _) (by omega); omega
          exact ((HD.out i hi).put hbi _ (by omega)).put hbi _ (by omega))
        have HR2 := Lib.hid (show ∀ i, k + 1 ≤ i → i < f.len → PutAt ((wr.setCell ⟨b, k * 3, none⟩ (.int .i64 u)).setCell ⟨b, k * 3 + 1, none⟩ (.int .i64 (u + 1))) b A C s f i (f.hAt i) (f.lAt i) (f.kAt i) from fun i hi hl => by
          have hbi : b < s i := by have := HMO.out 0 i (Nat.zero_le _) (by omega); omega
          exact ((HR.out i (by omega) hl).put hbi _ (by omega)).put hbi _ (by omega))
        have HG := Lib.hid (g4.touch t1 (.inr hsk))
        have HT2 := Lib.hid (HT.out.trans (t1.wide hlb (by omega)))
        have fz1 : ((wr.setCell ⟨b, k * 3, none⟩ (.int .i64 u)).setCell ⟨b, k * 3 + 1, none⟩ (.int .i64 (u + 1))).frozen? ⟨b, k * 3, none⟩ = false := (World.frozen?_setCell _ _ _ _).trans ((World.frozen?_setCell _ _ _ _).trans f1)
        have fz2 : ((wr.setCell ⟨b, k * 3, none⟩ (.int .i64 u)).setCell ⟨b, k * 3 + 1, none⟩ (.int .i64 (u + 1))).frozen? ⟨b, k * 3 + 1, none⟩ = false := (World.frozen?_setCell _ _ _ _).trans ((World.frozen?_setCell _ _ _ _).trans f2)
        have HQ := Lib.hid (And.intro q1 (And.intro q2 (And.intro q3 (And.intro fz1 fz2))))
        have hs := f.k_size hlt
        have hp := f.pre_succ hlt
        have hpl := f.pre_le (k + 1)
        have hi0 : (k : Int) < (f.len : Int) := by omega
        have HUU := Lib.hid (show u + 1 + 1 + 2 * ((f.kAt k).size : Int) = k0 + 2 * (f.pre (k + 1) : Int) by rw [hp, HU.out]; omega)
        have hb2 : u + 1 + 1 + 2 * ((f.kAt k).size : Int) ≤ 8388608 := by rw [HUU.out]; omega
        have hz2 : ((wr.setCell ⟨b, k * 3, none⟩ (.int .i64 u)).setCell ⟨b, k * 3 + 1, none⟩ (.int .i64 (u + 1))).heap.size = w.heap.size := by simp; exact HZ.out
        have HZ2 := Lib.hid hz2
        clear t1 g4 hp q1 q2 q3 fz1 fz2 g2' hz2
        go_wp2_with fail
        refine (HIH.out (f.kAt k) (by omega) (by omega) (s k) (s (k + 1)) (A k) (C k) (u + 1 + 1) _ HG.out (by omega) hb2).mono ?_
        generalize (wr.setCell ⟨b, k * 3, none⟩ (.int .i64 u)).setCell ⟨b, k * 3 + 1, none⟩ (.int .i64 (u + 1)) = w3 at *
        rintro e w4 ⟨rfl, ho4, ht4, hz4⟩
        have hbk : b < s k ∨ s (k + 1) ≤ b := .inl hsk
        have HD4 := Lib.hid (show ∀ i, i < k + 1 → PutAt w4 b A C s f i (k0 + 2 * (f.pre i : Int)) (k0 + 2 * (f.pre i : Int) + 1) ((f.kAt i).mk (k0 + 2 * (f.pre i : Int) + 2)) from fun i hi => by
          by_cases e : i = k
          · subst e
            obtain ⟨q1, q2, q3, fz1, fz2⟩ := HQ.out
            rw [← HU.out]
            refine ⟨⟨ht4.cell q1 hbk, (ht4.fz q1 hbk).trans fz1⟩, ⟨ht4.cell q2 hbk, (ht4.fz q2 hbk).trans fz2⟩, ht4.cell q3 hbk, ?_⟩
            rw [show u + 1 + 1 = u + 2 by omega] at ho4
            exact ho4
          · exact (HD2.out i (by omega)).step ht4 hbk (.inl (HMO.out (i + 1) k (by omega) hk)))
        have HR4 := Lib.hid (show ∀ i, k + 1 ≤ i → i < f.len → PutAt w4 b A C s f i (f.hAt i) (f.lAt i) (f.kAt i) from fun i hi hl => (HR2.out i hi hl).step ht4 hbk (.inr (HMO.out (k + 1) i hi (by omega))))
        have HT4 := Lib.hid (HT2.out.trans (ht4.wide (by omega) hskh))
        have HZ4 := Lib.hid (hz4.trans HZ2.out)
        have hv0 : 0 ≤ u + 1 + 1 + 2 * ((f.kAt k).size : Int) := by omega
        clear ho4 ht4 hz4 g1 g2 g3 f1 f2
        go_wp2_with fail
        go_roundw
        case rel => exact ⟨k + 1, _, by omega, by go_num, rfl, HUU.out, HD4.out, HR4.out, HT4.out, HZ4.out⟩
        case measure => simp [intOf]; omega
      · have hE : k = f.len := by omega
        have HU2 := Lib.hid (show u = k0 + 2 * (f.size : Int) by rw [HU.out, hE, f.pre_len])
        have HF := Lib.hid (show OG wr lo hi (some ⟨b, 0, none⟩) (f.mk k0) from .inr ⟨b, rfl, hlb, hbh, OAt.of s HS0.out (by rw [HML.out]; exact HS1.out) (fun i hi => by rw [HML.out] at hi; exact HMO.out i (i + 1) (by omega) hi) fun i hi => by
          rw [HML.out] at hi
          obtain ⟨h1, h2, h3⟩ := HMK.out i hi
          obtain ⟨p1, p2, p3, p4⟩ := HD.out i (by omega)
          rw [Nat.zero_add, h1, h2, h3, Fo.mk_len]
          exact ⟨p1, p2, _, _, p3, p4⟩⟩)
        go_wp2_with fail
        go_ret
        exact ⟨by first | rw [HU2.out]; rfl | rfl, HF.out, HT.out, HZ.out⟩
end Go.Proofs.Ytjhggglaglpgfaa
