/- gate of the program's nodes: new memory for each node. -/
import Derived.Test.YtjhggglaglpgfaaHg
import Derived.Test.YtjhggglaglpgfaaAs
import Derived.Deep.RegionLaw
import Derived.Deep.CutRange
namespace Go.Proofs.Ytjhggglaglpgfaa
open Go.RowKit Go.Deep
set_option linter.unusedVariables false
attribute [local go_sem ↓] Go.wp_at_zero Go.wp_at_succ

/-- 'make' of room for elements of three cells. -/
theorem run_room3 {P : Program} (t e : TypeId) (z : Value) (bytes : Nat) (ht : P.underlying t = some (.slice e)) (hinfo : (P.info? e).map (fun i => (i.zero, i.size, i.bytes)) = some (some z, 3, bytes))
    (kl kc : IntKind) (n : Nat) (hbytes : bytes * n ≤ 281474976710656) (h63 : n ≤ 9223372036854775807) (w : World) :
    (Instr.makeSlice t (.int kl 0) (.int kc (n : Int))).run P w = .ok (.slice (some ⟨w.heap.size, 0, none⟩) 0 n) (w.alloc (.cells (madeCells z.cells (n * 3)) e)) := by
  obtain ⟨i, hi, hzz⟩ := Option.map_eq_some_iff.1 hinfo
  simp only [Prod.mk.injEq] at hzz
  obtain ⟨hz, hs, hb⟩ := hzz
  have hb' : (i.bytes : Int) * (n : Int) ≤ 281474976710656 := by
    have h : ((i.bytes * n : Nat) : Int) ≤ 281474976710656 := by rw [hb]; omega
    rwa [Int.natCast_mul] at h
  have hr := run_make (P := P) w t e i z ht hi hz kl kc 0 n (by omega) (by omega) hb' (by omega)
  simp only [Int.toNat_natCast, hs] at hr
  exact hr
set_option maxRecDepth 100000 in
theorem leafGate_any (h : Int) (w : World) :
    Calls Try.prog 82 #[.agg #[.int .i64 h]] w fun e w' => e = .returned (.agg #[.int .i64 h, .int .i64 0, .slice none 0 0]) ∧ Below w.heap.size w w' := by
  go_enter Try.func82, Try.ntmps82
  go_wp2_with fail
  refine bodyPost_ret (v := .agg #[.int .i64 h, .int .i64 0, .slice none 0 0]) (by simp [results, Try.results82, go_sem]) rfl ⟨rfl, ?_⟩
  go_grown

theorem mk_first (w : World) (z : Array Value) (n : Nat) (vs : Array Value) (t u : TypeId) : ∃ F, ((w.alloc (.cells (madeCells z n) t)).alloc (.cells vs u)).drew.rowIs w.heap.size t n F ∧ Boxes ((w.alloc (.cells (madeCells z n) t)).alloc (.cells vs u)).drew (w.heap.size + 1) u vs ∧ Below w.heap.size w ((w.alloc (.cells (madeCells z n) t)).alloc (.cells vs u)).drew := by
  obtain ⟨F, hF⟩ := rowIs_made3 w z n t
  have hb1 := (Below.refl w.heap.size w).alloc (Nat.le_refl _) (.cells (madeCells z n) t)
  have hb2 := (Below.refl _ _).alloc (Nat.le_refl (w.alloc (.cells (madeCells z n) t)).heap.size) (.cells vs u)
  refine ⟨F, rowIs_below (rowIs_below hF hb2 hF.lt) (drew_step _) (Nat.lt_of_lt_of_le hF.lt hb2.size), ?_, (hb1.trans (hb2.mono hb1.size)).drew⟩
  have : Boxes ((w.alloc (.cells (madeCells z n) t)).alloc (.cells vs u)) (w.alloc (.cells (madeCells z n) t)).heap.size u vs := World.alloc_heap_new _ _
  rw [World.size_alloc] at this
  exact this.step (drew_step _)
theorem mk_second (w : World) (z : Array Value) (n : Nat) (vs : Array Value) (t u : TypeId) : ∃ F, ((w.alloc (.cells vs u)).alloc (.cells (madeCells z n) t)).drew.rowIs (w.heap.size + 1) t n F ∧ Boxes ((w.alloc (.cells vs u)).alloc (.cells (madeCells z n) t)).drew w.heap.size u vs ∧ Below w.heap.size w ((w.alloc (.cells vs u)).alloc (.cells (madeCells z n) t)).drew := by
  obtain ⟨F, hF⟩ := rowIs_made3 (w.alloc (.cells vs u)) z n t
  have hb1 := (Below.refl w.heap.size w).alloc (Nat.le_refl _) (.cells vs u)
  have hb2 := (Below.refl _ _).alloc (Nat.le_refl (w.alloc (.cells vs u)).heap.size) (.cells (madeCells z n) t)
  have h1 := rowIs_below hF (drew_step _) hF.lt
  rw [World.size_alloc] at h1
  exact ⟨F, h1, (Boxes.step (World.alloc_heap_new w _) hb2).step (drew_step _), (hb1.trans (hb2.mono hb1.size)).drew⟩
theorem OAt.lower {W : World} {f : Fo} {lo hi lo2 b o : Nat} (h : OAt W f lo hi b o) (hl : lo2 ≤ lo) : OAt W f lo2 hi b o := by
  cases f with
  | nil => trivial
  | cons x l k r =>
    obtain ⟨h1, h2, mid, hm1, hm2, ⟨a, c, h3, h4⟩, h5⟩ := h
    refine ⟨h1, h2, mid, by omega, hm2, ⟨a, c, h3, ?_⟩, h5⟩
    rcases h4 with h4 | ⟨b', e, h6, h7, h8⟩
    · exact .inl h4
    · exact .inr ⟨b', e, by omega, h7, h8⟩
theorem setCells3 (W : World) (g o : Nat) (x y z : Value) : W.setCells g (0 + o) [x, y, z] = ((W.setCell ⟨g, o, none⟩ x).setCell ⟨g, o + 1, none⟩ y).setCell ⟨g, o + 2, none⟩ z := by
  simp [World.setCells]
/-- What has been put into a row of gates. -/
structure FilledO (W : World) (S0 : Nat) (s : Nat → Nat) (F : Nat → Value) (f : Fo) (k : Nat) : Prop where
  lo : s 0 = S0
  hi : s k ≤ W.heap.size
  up : ∀ i, i < k → s i ≤ s (i + 1)
  at_ : ∀ i, i < k → F (i * 3) = .int .i64 (f.hAt i) ∧ F (i * 3 + 1) = .int .i64 (f.lAt i) ∧ ∃ (a : Option Addr) (c : Nat), F (i * 3 + 2) = .slice a (f.kAt i).len c ∧ OG W (s i) (s (i + 1)) a (f.kAt i)
theorem FilledO.ge {W : World} {S0 : Nat} {s : Nat → Nat} {F : Nat → Value} {f : Fo} {k : Nat} (h : FilledO W S0 s F f k) : ∀ i, i ≤ k → S0 ≤ s i := by
  intro i
  induction i with
  | zero => exact fun _ => Nat.le_of_eq h.lo.symm
  | succ i ih => exact fun hi => Nat.le_trans (ih (by omega)) (h.up i (by omega))
theorem FilledO.le {W : World} {S0 : Nat} {s : Nat → Nat} {F : Nat → Value} {f : Fo} {k : Nat} (h : FilledO W S0 s F f k) : ∀ j i, i + j = k → s i ≤ s k := by
  intro j
  induction j with
  | zero => exact fun i e => by rw [show i = k by omega]; exact Nat.le_refl _
  | succ j ih => exact fun i e => Nat.le_trans (h.up i (by omega)) (ih (i + 1) (by omega))
theorem FilledO.touch {W W' : World} {S0 : Nat} {s : Nat → Nat} {F : Nat → Value} {f : Fo} {k : Nat} (h : FilledO W S0 s F f k) {l2 h2 : Nat} (ht : Touch l2 h2 W W') (hd : h2 ≤ S0) : FilledO W' S0 s F f k :=
  ⟨h.lo, Nat.le_trans h.hi ht.size, h.up, fun i hi => by
    obtain ⟨h1, h3, a, c, h4, h5⟩ := h.at_ i hi
    exact ⟨h1, h3, a, c, h4, h5.touch ht (.inr (Nat.le_trans hd (h.ge i (by omega))))⟩⟩
theorem FilledO.step {W W' : World} {S0 : Nat} {s : Nat → Nat} {F : Nat → Value} {f : Fo} {k : Nat} (h : FilledO W S0 s F f k) (hb : Below W.heap.size W W') : FilledO W' S0 s F f k :=
  ⟨h.lo, Nat.le_trans h.hi hb.size, h.up, fun i hi => by
    obtain ⟨h1, h3, a, c, h4, h5⟩ := h.at_ i hi
    exact ⟨h1, h3, a, c, h4, h5.step hb⟩⟩
theorem FilledO.put {W : World} {S0 : Nat} {s : Nat → Nat} {F : Nat → Value} {f : Fo} {k M : Nat} (h : FilledO W S0 s F f k) {a : Option Addr} {c : Nat} (hM : s k ≤ M) (ha : OG W M W.heap.size a (f.kAt k)) :
    FilledO W S0 (fun i => if i ≤ k then s i else W.heap.size) (fun j => if j = k * 3 + 2 then .slice a (f.kAt k).len c else if j = k * 3 + 1 then .int .i64 (f.lAt k) else if j = k * 3 then .int .i64 (f.hAt k) else F j) f (k + 1) := by
  refine ⟨by simp [h.lo], by show (if k + 1 ≤ k then s (k + 1) else W.heap.size) ≤ _; rw [if_neg (by omega)]; exact Nat.le_refl _, fun i hi => ?_, fun i hi => ?_⟩
  · by_cases e : i = k
    · subst e; show (if i ≤ i then s i else W.heap.size) ≤ (if i + 1 ≤ i then s (i + 1) else W.heap.size); rw [if_pos (Nat.le_refl _), if_neg (by omega)]; exact h.hi
    · show (if i ≤ k then s i else W.heap.size) ≤ (if i + 1 ≤ k then s (i + 1) else W.heap.size); rw [if_pos (by omega), if_pos (by omega)]; exact h.up i (by omega)
  · by_cases e : i = k
    · subst e
      refine ⟨by simp, by simp, a, c, by simp, ?_⟩
      show OG W (if i ≤ i then s i else W.heap.size) (if i + 1 ≤ i then s (i + 1) else W.heap.size) a (f.kAt i)
      rw [if_pos (Nat.le_refl _), if_neg (by omega)]
      exact ha.mono hM (Nat.le_refl _)
    · obtain ⟨h1, h2, a2, c2, h3, h4⟩ := h.at_ i (by omega)
      refine ⟨?_, ?_, a2, c2, ?_, ?_⟩
      · rw [← h1]; rw [if_neg (by omega), if_neg (by omega), if_neg (by omega)]
      · rw [← h2]; rw [if_neg (by omega), if_neg (by omega), if_neg (by omega)]
      · rw [← h3]; rw [if_neg (by omega), if_neg (by omega), if_neg (by omega)]
      · show OG W (if i ≤ k then s i else W.heap.size) (if i + 1 ≤ k then s (i + 1) else W.heap.size) a2 (f.kAt i); rw [if_pos (by omega), if_pos (by omega)]; exact h4
set_option maxRecDepth 100000 in
theorem method_lg (x : Value) (n : Nat) (w : World) : (method (n + 1) 62 x "loop.example/g01117/impl.gate").run Try.prog w = .ok (82, x) w := by first | rfl | kernel_rfl
set_option maxRecDepth 100000 in
theorem method_tg (x : Value) (n : Nat) (w : World) : (method (n + 1) 68 x "loop.example/g01117/impl.gate").run Try.prog w = .ok (87, x) w := by first | rfl | kernel_rfl
theorem leafGate_o (h : Int) (w : World) :
    Calls Try.prog 82 #[.agg #[.int .i64 h]] w fun e w' => (∃ a c', e = .returned (.agg #[.int .i64 h, .int .i64 0, .slice a Fo.nil.len c']) ∧ OG w' w.heap.size w'.heap.size a .nil) ∧ Below w.heap.size w w' :=
  (leafGate_any h w).mono fun e w' ⟨he, hb⟩ => ⟨⟨none, 0, he, .inl rfl⟩, hb⟩
theorem spare_of {W : World} {g n : Nat} {t : TypeId} {F : Nat → Value} (h : W.rowIs g t n F) {k : Nat} (hk : k * 3 + 3 ≤ n) : ∀ j, j < 3 → (W.cell? ⟨g, 0 + k * 3 + j, none⟩).isSome = true ∧ W.frozen? ⟨g, 0 + k * 3 + j, none⟩ = false := fun j hj => by
  rw [Nat.zero_add]; exact ⟨by rw [h.cell (by omega)]; rfl, h.frozen _⟩
theorem Boxes.putN {W : World} {B : Nat} {t : TypeId} {vs : Array Value} (h : Boxes W B t vs) {p : Addr} (hp : p.block ≠ B) (v : Value) : Boxes (W.setCell p v) B t vs := (Below.heap_setCell _ _ _ B (fun e => hp e.symm)).trans h
theorem Boxes.setN2 {W : World} {B : Nat} {t : TypeId} {u0 u1 u2 : Value} (h : Boxes W B t #[u0, u1, u2]) (v : Value) : Boxes (W.setCell ⟨B, 2, none⟩ v) B t #[u0, u1, v] := by
  unfold Boxes at h ⊢
  simp [World.setCell, Array.getElem?_modify, h]
theorem news3 (w : World) (x y z : Value) (t : TypeId) : ∀ j u, [x, y, z][j]? = some u → (w.alloc (.cells #[x, y, z] t)).cell? ((⟨w.heap.size, 0, none⟩ : Addr).add j) = some u := by
  intro j u hj
  match j, hj with
  | 0, hj => simp at hj; subst hj; simp [Addr.add]
  | 1, hj => simp at hj; subst hj; simp [Addr.add]
  | 2, hj => simp at hj; subst hj; simp [Addr.add]

set_option maxRecDepth 100000 in
set_option maxHeartbeats 4000000 in
theorem thrGate_any : ∀ (m : Nat) (f : Fo), f.size < m → m ≤ 1048577 → ∀ (ok : Nat → Prop) (b o n : Nat) (l : Int) (c : Nat) (w : World), 0 < f.len → f.form n → ok b → NAt w ok f b o →
    Calls Try.prog 87 #[.agg #[.int .i64 l, .slice (some ⟨b, o, none⟩) f.len c]] w fun e w' => (∃ a c', e = .returned (.agg #[.int .i64 (-1), .int .i64 l, .slice a f.len c']) ∧ OG w' w.heap.size w'.heap.size a f) ∧ Below w.heap.size w w' := by
  intro m
  induction m with
  | zero => exact fun f hf => absurd hf (Nat.not_lt_zero _)
  | succ m ih =>
    intro f hf hm ok b o n l c w hpos hfo hob hna
    have hlen := f.len_le
    have HIH := Lib.hid ih
    have HF := Lib.hid hfo
    have HNA := Lib.hid hna
    have HPOS := Lib.hid hpos
    have hn0 : (0 : Int) ≤ (f.len : Int) := by omega
    clear ih hfo hna
    have hml := method_lg
    have hmt := method_tg
    have hmk := fun (w : World) => run_room3 (P := Try.prog) 26 28 (.agg #[.int .i64 0, .int .i64 0, .slice none 0 0]) 40 Try.underlying26 Try.infoGate .i64 .i64 f.len (by omega) (by omega) w
    go_enter Try.func87, Try.ntmps87
    go_wp2_with fail
    have hb0 := ((Below.refl w.heap.size w).alloc (Nat.le_refl _) (.cells #[.int .i64 l, .slice (some ⟨b, o, none⟩) f.len c] 68)).alloc (by simp) (.cells #[.int .i64 0, .int .i64 0, .slice none 0 0] 28)
    have hx0 : Boxes ((w.alloc (.cells #[.int .i64 l, .slice (some ⟨b, o, none⟩) f.len c] 68)).alloc (.cells #[.int .i64 0, .int .i64 0, .slice none 0 0] 28)) w.heap.size 68 #[.int .i64 l, .slice (some ⟨b, o, none⟩) f.len c] := Boxes.step (World.alloc_heap_new w _) ((Below.refl _ _).alloc (Nat.le_refl _) (.cells #[.int .i64 0, .int .i64 0, .slice none 0 0] 28))
    have hy0 : Boxes ((w.alloc (.cells #[.int .i64 l, .slice (some ⟨b, o, none⟩) f.len c] 68)).alloc (.cells #[.int .i64 0, .int .i64 0, .slice none 0 0] 28)) (w.heap.size + 1) 28 #[.int .i64 0, .int .i64 0, .slice none 0 0] := by
      have : Boxes ((w.alloc (.cells #[.int .i64 l, .slice (some ⟨b, o, none⟩) f.len c] 68)).alloc (.cells #[.int .i64 0, .int .i64 0, .slice none 0 0] 28)) (w.alloc (.cells #[.int .i64 l, .slice (some ⟨b, o, none⟩) f.len c] 68)).heap.size 28 #[.int .i64 0, .int .i64 0, .slice none 0 0] := World.alloc_heap_new _ _
      simp only [World.size_alloc] at this
      exact this
    have hs0 : ((w.alloc (.cells #[.int .i64 l, .slice (some ⟨b, o, none⟩) f.len c] 68)).alloc (.cells #[.int .i64 0, .int .i64 0, .slice none 0 0] 28)).heap.size = w.heap.size + 2 := by simp
    generalize (w.alloc (.cells #[.int .i64 l, .slice (some ⟨b, o, none⟩) f.len c] 68)).alloc (.cells #[.int .i64 0, .int .i64 0, .slice none 0 0] 28) = w0 at *
    have HB0 := Lib.hid hb0
    have HX0 := Lib.hid hx0
    have HY0 := Lib.hid hy0
    have HS0 := Lib.hid hs0
    have x0 := hx0.n0
    have x1 := hx0.n1
    have xl := hx0.lt
    clear hb0 hx0 hy0 hs0
    go_cut [3] from 6 to 12 (fun s3 wr => ∃ (pt g : Nat) (F : Nat → Value), s3 = .pointer (some ⟨pt, 0, none⟩) ∧ Boxes wr pt 28 #[.int .i64 (-1), .int .i64 l, .slice (some ⟨g, 0, none⟩) 0 f.len] ∧ wr.rowIs g 28 (f.len * 3) F ∧ pt ≠ g ∧ w0.heap.size ≤ pt ∧ w0.heap.size ≤ g ∧ Below w0.heap.size w0 wr)
    case first =>
      go_region
      · obtain ⟨F, k1, k2, k3⟩ := mk_first w0 #[.int .i64 0, .int .i64 0, .slice none 0 0] (f.len * 3) #[.int .i64 (-1), .int .i64 l, .slice (some ⟨w0.heap.size, 0, none⟩) 0 f.len] 28 28
        have K1 := Lib.hid k1
        have K2 := Lib.hid k2
        have K3 := Lib.hid k3
        clear k1 k2 k3
        go_wp2_with fail
        go_meet
        exact ⟨_, _, F, rfl, K2.out, K1.out, by omega, by omega, Nat.le_refl _, K3.out⟩
      · obtain ⟨F, k1, k2, k3⟩ := mk_second w0 #[.int .i64 0, .int .i64 0, .slice none 0 0] (f.len * 3) #[.int .i64 (-1), .int .i64 l, .slice (some ⟨w0.heap.size + 1, 0, none⟩) 0 f.len] 28 28
        have K1 := Lib.hid k1
        have K2 := Lib.hid k2
        have K3 := Lib.hid k3
        clear k1 k2 k3
        go_wp2_with fail
        go_meet
        exact ⟨_, _, F, rfl, K2.out, K1.out, by omega, Nat.le_refl _, by omega, K3.out⟩
    case rest =>
    obtain ⟨pt, g, F0, rfl, hp, hrow, hne, hpt, hg, hbc⟩ := hcut
    obtain ⟨w1, hwn⟩ : ∃ W : World, W = wc := ⟨_, rfl⟩
    subst hwn
    have HP := Lib.hid hp
    have HROW := Lib.hid hrow
    have HBC := Lib.hid hbc
    have hx1 := HX0.out.step hbc
    have hs0 := HS0.out
    clear x0 x1 xl hp hrow hbc
    have x0 := hx1.n0
    have x1 := hx1.n1
    have xl := hx1.lt
    clear hx1 hmk
    go_wp2_with fail
    clear x0 x1 xl
    go_loopw [5, 16] (fun _ i wr => ∃ (k : Nat) (F : Nat → Value) (s : Nat → Nat), k ≤ f.len ∧ i = .int .i64 k ∧ Boxes wr pt 28 #[.int .i64 (-1), .int .i64 l, .slice (some ⟨g, 0, none⟩) k f.len] ∧ wr.rowIs g 28 (f.len * 3) F ∧ FilledO wr w1.heap.size s F f k ∧ Below w0.heap.size w0 wr ∧ w1.heap.size ≤ wr.heap.size)
      (fun _ i _ => f.len - (intOf i).toNat)
    case atStart => exact ⟨0, F0, fun _ => w1.heap.size, Nat.zero_le _, rfl, HP.out, HROW.out, ⟨rfl, Nat.le_refl _, fun i hi => absurd hi (Nat.not_lt_zero _), fun i hi => absurd hi (Nat.not_lt_zero _)⟩, HBC.out, Nat.le_refl _⟩
    case round =>
      obtain ⟨k, F, s, hk, rfl, hp, hrow, hfil, hb, hw1⟩ := hrel
      have hpl := hp.lt
      have hgl := hrow.lt
      have hpw : pt < w1.heap.size := HP.out.lt
      have hgw : g < w1.heap.size := HROW.out.lt
      have HPk := Lib.hid hp
      have HRk := Lib.hid hrow
      have HFk := Lib.hid hfil
      have HBk := Lib.hid hb
      have p0 := hp.g0
      have p1 := hp.g1
      have p2 := hp.g2
      have pf := hp.gf 2
      clear hp hrow hfil hb
      by_cases hlt : k < f.len
      · obtain ⟨v, h1, h2⟩ := HNA.out.get hlt
        have c0 := cell_step (HBk.out) (cell_step HB0.out h1)
        have hs := f.k_size hlt
        have HGF := Lib.hid (Fo.form_get HF.out hlt)
        have HPUT := Lib.hid (fun (W : World) (a : Option Addr) (c M : Nat) (hW : FilledO W w1.heap.size s F f k) (hM : s k ≤ M) (ha : OG W M W.heap.size a (f.kAt k)) => hW.put (c := c) hM ha)
        obtain ⟨i3, ji, jz0, jz1, jz2⟩ := info_parts Try.infoGate
        have hi0 : (k : Int) < (f.len : Int) := by omega
        clear h1
        generalize f.hAt k = gh at *
        generalize f.lAt k = gl at *
        generalize f.kAt k = gk at *
        rcases h2 with ⟨rfl, rfl⟩ | ⟨hne2, b', o', c', rfl, hob', hna'⟩
        · obtain ⟨g0, g1, g2⟩ := gform_nil.1 HGF.out
          subst g0
          go_wp2_with fail
          go_region_law ((first | (go_simp; go_at_call 82; refine (leafGate_o gh _).mono ?_; rintro e w8 ⟨⟨a8, c8, rfl, ho8⟩, hb8⟩; have HP8 := Lib.hid (show Boxes w8 pt 28 #[.int .i64 (-1), .int .i64 l, .slice (some ⟨g, 0, none⟩) k f.len] by first | exact HPk.out.step hb8 | exact (HPk.out.step (drew_step _)).step hb8); have HR8 := Lib.hid (show w8.rowIs g 28 (f.len * 3) F by first | exact rowIs_below HRk.out hb8 HRk.out.lt | exact rowIs_below (rowIs_below HRk.out (drew_step _) HRk.out.lt) hb8 HRk.out.lt); have HF8 := Lib.hid (show FilledO w8 w1.heap.size s F f k by first | exact HFk.out.step hb8 | exact (HFk.out.step (drew_step _)).step hb8); have HB8 := Lib.hid (show Below w0.heap.size w0 w8 by first | exact HBk.out.trans (hb8.mono HBk.out.size) | exact HBk.out.drew.trans (hb8.mono HBk.out.size)); have h18 : wr.heap.size ≤ w8.heap.size := hb8.size; have HO8 := Lib.hid (show OG w8 wr.heap.size w8.heap.size a8 .nil from ho8); have z0 := HP8.out.g0; have z1 := HP8.out.g1; have z2 := HP8.out.g2; have zf := HP8.out.gf 2; have zl := HP8.out.lt) | (refine step_append_room (by rfl) _ _ 26 (by rfl) 28 i3 3 Try.underlying26 ji jz1 g 0 k f.len (by rfl) ⟨w8.heap.size, 0, none⟩ 1 1 [.int .i64 gh, .int .i64 0, .slice a8 Fo.nil.len c8] (by rfl) (by rfl) (by first | exact news3 _ _ _ _ _ | (intro j u hj; exact news3 w8 _ _ _ _ j u hj)) (by simp [Value.oneCell']) (by omega) (fun j hj => spare_of (n := f.len * 3) (F := F) (t := 28) (by first | exact rowIs_below HR8.out ((Below.refl _ _).alloc (Nat.le_refl _) _) HR8.out.lt | exact rowIs_below HR8.out (((Below.refl _ _).alloc (Nat.le_refl _) _).drew) HR8.out.lt | exact rowIs_below HR8.out ((Below.refl _ _).drew.alloc (Nat.le_refl _) _) HR8.out.lt) (by omega) j (by simpa using hj)) ?_; rw [setCells3]; have hx9 := (((HP8.out.step (by first | exact (Below.refl _ _).alloc (Nat.le_refl _) (.cells #[.int .i64 gh, .int .i64 0, .slice a8 Fo.nil.len c8] 28) | exact ((Below.refl _ _).alloc (Nat.le_refl _) (.cells #[.int .i64 gh, .int .i64 0, .slice a8 Fo.nil.len c8] 28)).drew | exact (Below.refl _ _).drew.alloc (Nat.le_refl _) (.cells #[.int .i64 gh, .int .i64 0, .slice a8 Fo.nil.len c8] 28))).putN (p := ⟨g, k * 3, none⟩) (fun e => hne e.symm) (.int .i64 gh)).putN (p := ⟨g, k * 3 + 1, none⟩) (fun e => hne e.symm) (.int .i64 0)).putN (p := ⟨g, k * 3 + 2, none⟩) (fun e => hne e.symm) (.slice a8 Fo.nil.len c8); have y0 := hx9.g0; have y1 := hx9.g1; have y2 := hx9.g2; have yf := hx9.gf 2; have yl := hx9.lt)))
          all_goals (
            have HX9 := Lib.hid hx9
            have hal := (Below.refl w8.heap.size w8).alloc (Nat.le_refl _) (.cells #[.int .i64 gh, .int .i64 0, .slice a8 Fo.nil.len c8] 28)
            have hr9 := (((rowIs_below HR8.out hal HR8.out.lt).set (k * 3) (.int .i64 gh)).set (k * 3 + 1) (.int .i64 0)).set (k * 3 + 2) (.slice a8 Fo.nil.len c8)
            have HR9 := Lib.hid (World.rowIs.setOther hr9 (a := ⟨pt, 2, none⟩) (by show g ≠ pt; exact fun e => hne e.symm) (.slice (some ⟨g, 0, none⟩) (k + 1) f.len))
            have ht9 : Touch w0.heap.size w1.heap.size (w8.alloc (.cells #[.int .i64 gh, .int .i64 0, .slice a8 Fo.nil.len c8] 28)) (((((w8.alloc (.cells #[.int .i64 gh, .int .i64 0, .slice a8 Fo.nil.len c8] 28)).setCell ⟨g, k * 3, none⟩ (.int .i64 gh)).setCell ⟨g, k * 3 + 1, none⟩ (.int .i64 0)).setCell ⟨g, k * 3 + 2, none⟩ (.slice a8 Fo.nil.len c8)).setCell ⟨pt, 2, none⟩ (.slice (some ⟨g, 0, none⟩) (k + 1) f.len)) := ((((touch_put g _ _ _ hg hgw)).trans (touch_put g _ _ _ hg hgw)).trans (touch_put g _ _ _ hg hgw)).trans (touch_put pt _ _ _ hpt hpw)
            have HF9 := Lib.hid (HPUT.out _ a8 c8 wr.heap.size ((HF8.out.step hal).touch ht9 (Nat.le_refl _)) HFk.out.hi (((HO8.out.mono (Nat.le_refl _) (by simp)).step hal).touch ht9 (.inr hw1)))
            have HB9 := Lib.hid ((((((HB8.out.alloc HB8.out.size (.cells #[.int .i64 gh, .int .i64 0, .slice a8 Fo.nil.len c8] 28)).setCell (p := ⟨g, k * 3, none⟩) hg (.int .i64 gh)).setCell (p := ⟨g, k * 3 + 1, none⟩) hg (.int .i64 0)).setCell (p := ⟨g, k * 3 + 2, none⟩) hg (.slice a8 Fo.nil.len c8)).setCell (p := ⟨pt, 2, none⟩) hpt (.slice (some ⟨g, 0, none⟩) (k + 1) f.len)))
            clear hx9 hal hr9 ht9 y0 y1 y2 yf yl z0 z1 z2 zf zl p0 p1 p2 pf c0
            go_wp2_with fail
            go_roundw
            case rel => exact ⟨k + 1, _, _, by omega, by go_num, HX9.out.setN2 _, HR9.out, HF9.out, HB9.out, by simp; omega⟩
            case measure => simp [intOf]; omega)
        · have hkp : 0 < gk.len := by
            cases gk with
            | nil => exact absurd rfl hne2
            | cons => exact Nat.succ_pos _
          have HFK := Lib.hid (((gform_some hkp).1 HGF.out).2.2.2)
          have HNK := Lib.hid (hna'.map (W' := wr) (ok' := ok) (fun b o v q hc => ⟨q, cell_step HBk.out (cell_step HB0.out hc)⟩) hob')
          obtain rfl : gh = -1 := ((gform_some hkp).1 HGF.out).1
          clear hna' hne2
          go_wp2_with fail
          go_region_law ((first | (go_simp; go_at_call 87; refine (HIH.out gk (by omega) (by omega) ok b' o' n gl c' _ hkp HFK.out hob' (by first | exact HNK.out | exact HNK.out.map (ok' := ok) (fun b o v q hc => ⟨q, cell_step (drew_step _) hc⟩) hob')).mono ?_; rintro e w8 ⟨⟨a8, c8, rfl, ho8⟩, hb8⟩; have HP8 := Lib.hid (show Boxes w8 pt 28 #[.int .i64 (-1), .int .i64 l, .slice (some ⟨g, 0, none⟩) k f.len] by first | exact HPk.out.step hb8 | exact (HPk.out.step (drew_step _)).step hb8); have HR8 := Lib.hid (show w8.rowIs g 28 (f.len * 3) F by first | exact rowIs_below HRk.out hb8 HRk.out.lt | exact rowIs_below (rowIs_below HRk.out (drew_step _) HRk.out.lt) hb8 HRk.out.lt); have HF8 := Lib.hid (show FilledO w8 w1.heap.size s F f k by first | exact HFk.out.step hb8 | exact (HFk.out.step (drew_step _)).step hb8); have HB8 := Lib.hid (show Below w0.heap.size w0 w8 by first | exact HBk.out.trans (hb8.mono HBk.out.size) | exact HBk.out.drew.trans (hb8.mono HBk.out.size)); have h18 : wr.heap.size ≤ w8.heap.size := hb8.size; have HO8 := Lib.hid (show OG w8 wr.heap.size w8.heap.size a8 gk from ho8); have z0 := HP8.out.g0; have z1 := HP8.out.g1; have z2 := HP8.out.g2; have zf := HP8.out.gf 2; have zl := HP8.out.lt) | (refine step_append_room (by rfl) _ _ 26 (by rfl) 28 i3 3 Try.underlying26 ji jz1 g 0 k f.len (by rfl) ⟨w8.heap.size, 0, none⟩ 1 1 [.int .i64 (-1), .int .i64 gl, .slice a8 gk.len c8] (by rfl) (by rfl) (by first | exact news3 _ _ _ _ _ | (intro j u hj; exact news3 w8 _ _ _ _ j u hj)) (by simp [Value.oneCell']) (by omega) (fun j hj => spare_of (n := f.len * 3) (F := F) (t := 28) (by first | exact rowIs_below HR8.out ((Below.refl _ _).alloc (Nat.le_refl _) _) HR8.out.lt | exact rowIs_below HR8.out (((Below.refl _ _).alloc (Nat.le_refl _) _).drew) HR8.out.lt | exact rowIs_below HR8.out ((Below.refl _ _).drew.alloc (Nat.le_refl _) _) HR8.out.lt) (by omega) j (by simpa using hj)) ?_; rw [setCells3]; have hx9 := (((HP8.out.step (by first | exact (Below.refl _ _).alloc (Nat.le_refl _) (.cells #[.int .i64 (-1), .int .i64 gl, .slice a8 gk.len c8] 28) | exact ((Below.refl _ _).alloc (Nat.le_refl _) (.cells #[.int .i64 (-1), .int .i64 gl, .slice a8 gk.len c8] 28)).drew | exact (Below.refl _ _).drew.alloc (Nat.le_refl _) (.cells #[.int .i64 (-1), .int .i64 gl, .slice a8 gk.len c8] 28))).putN (p := ⟨g, k * 3, none⟩) (fun e => hne e.symm) (.int .i64 (-1))).putN (p := ⟨g, k * 3 + 1, none⟩) (fun e => hne e.symm) (.int .i64 gl)).putN (p := ⟨g, k * 3 + 2, none⟩) (fun e => hne e.symm) (.slice a8 gk.len c8); have y0 := hx9.g0; have y1 := hx9.g1; have y2 := hx9.g2; have yf := hx9.gf 2; have yl := hx9.lt)))
          all_goals (
            have HX9 := Lib.hid hx9
            have hal := (Below.refl w8.heap.size w8).alloc (Nat.le_refl _) (.cells #[.int .i64 (-1), .int .i64 gl, .slice a8 gk.len c8] 28)
            have hr9 := (((rowIs_below HR8.out hal HR8.out.lt).set (k * 3) (.int .i64 (-1))).set (k * 3 + 1) (.int .i64 gl)).set (k * 3 + 2) (.slice a8 gk.len c8)
            have HR9 := Lib.hid (World.rowIs.setOther hr9 (a := ⟨pt, 2, none⟩) (by show g ≠ pt; exact fun e => hne e.symm) (.slice (some ⟨g, 0, none⟩) (k + 1) f.len))
            have ht9 : Touch w0.heap.size w1.heap.size (w8.alloc (.cells #[.int .i64 (-1), .int .i64 gl, .slice a8 gk.len c8] 28)) (((((w8.alloc (.cells #[.int .i64 (-1), .int .i64 gl, .slice a8 gk.len c8] 28)).setCell ⟨g, k * 3, none⟩ (.int .i64 (-1))).setCell ⟨g, k * 3 + 1, none⟩ (.int .i64 gl)).setCell ⟨g, k * 3 + 2, none⟩ (.slice a8 gk.len c8)).setCell ⟨pt, 2, none⟩ (.slice (some ⟨g, 0, none⟩) (k + 1) f.len)) := ((((touch_put g _ _ _ hg hgw)).trans (touch_put g _ _ _ hg hgw)).trans (touch_put g _ _ _ hg hgw)).trans (touch_put pt _ _ _ hpt hpw)
            have HF9 := Lib.hid (HPUT.out _ a8 c8 wr.heap.size ((HF8.out.step hal).touch ht9 (Nat.le_refl _)) HFk.out.hi (((HO8.out.mono (Nat.le_refl _) (by simp)).step hal).touch ht9 (.inr hw1)))
            have HB9 := Lib.hid ((((((HB8.out.alloc HB8.out.size (.cells #[.int .i64 (-1), .int .i64 gl, .slice a8 gk.len c8] 28)).setCell (p := ⟨g, k * 3, none⟩) hg (.int .i64 (-1))).setCell (p := ⟨g, k * 3 + 1, none⟩) hg (.int .i64 gl)).setCell (p := ⟨g, k * 3 + 2, none⟩) hg (.slice a8 gk.len c8)).setCell (p := ⟨pt, 2, none⟩) hpt (.slice (some ⟨g, 0, none⟩) (k + 1) f.len)))
            clear hx9 hal hr9 ht9 y0 y1 y2 yf yl z0 z1 z2 zf zl p0 p1 p2 pf c0
            go_wp2_with fail
            go_roundw
            case rel => exact ⟨k + 1, _, _, by omega, by go_num, HX9.out.setN2 _, HR9.out, HF9.out, HB9.out, by simp; omega⟩
            case measure => simp [intOf]; omega)
      · have hE : k = f.len := by omega
        have HF := Lib.hid (show OG wr (w.heap.size + 2) wr.heap.size (some ⟨g, 0, none⟩) f from by
          have hs0 := HS0.out
          refine .inr ⟨g, rfl, by omega, by omega, OAt.lower (OAt.of s HFk.out.lo (by have := HFk.out.hi; rw [hE] at this; exact this) (fun i hi => HFk.out.up i (by omega)) fun i hi => ?_) (by omega : g + 1 ≤ w1.heap.size)⟩
          obtain ⟨h1, h2, a2, c2, h3, h4⟩ := HFk.out.at_ i (by omega)
          rw [Nat.zero_add]
          exact ⟨⟨by rw [HRk.out.cell (by omega), h1], HRk.out.frozen _⟩, ⟨by rw [HRk.out.cell (by omega), h2], HRk.out.frozen _⟩, a2, c2, by rw [HRk.out.cell (by omega), h3], h4⟩)
        have HY := Lib.hid (HY0.out.step HBk.out)
        have y0 := HY.out.g0
        have y1 := HY.out.g1
        have y2 := HY.out.g2
        have f0 := HY.out.gf 0
        have f1 := HY.out.gf 1
        have f2 := HY.out.gf 2
        have yl := HY.out.lt
        subst hE
        go_wp2_with fail
        refine bodyPost_ret (v := .agg #[.int .i64 (-1), .int .i64 l, .slice (some ⟨g, 0, none⟩) f.len f.len]) (by simp [results, Try.results87, go_sem, y0, y1, y2]) rfl ⟨⟨_, f.len, rfl, ?_⟩, ?_⟩
        · refine OG.mono ((HF.out.touch (((touch_put (w.heap.size + 1) 0 (.int .i64 (-1)) wr (Nat.le_refl _) (Nat.lt_succ_self _)).trans (touch_put (w.heap.size + 1) 1 (.int .i64 l) _ (Nat.le_refl _) (Nat.lt_succ_self _))).trans (touch_put (w.heap.size + 1) 2 (.slice (some ⟨g, 0, none⟩) f.len f.len) _ (Nat.le_refl _) (Nat.lt_succ_self _))) (.inr (Nat.le_refl _)))) (by omega) (by simp)
        · exact (((HB0.out.trans (HBk.out.mono HB0.out.size)).setCell (p := ⟨w.heap.size + 1, 0, none⟩) (Nat.le_succ _) _).setCell (p := ⟨w.heap.size + 1, 1, none⟩) (Nat.le_succ _) _).setCell (p := ⟨w.heap.size + 1, 2, none⟩) (Nat.le_succ _) _
end Go.Proofs.Ytjhggglaglpgfaa
