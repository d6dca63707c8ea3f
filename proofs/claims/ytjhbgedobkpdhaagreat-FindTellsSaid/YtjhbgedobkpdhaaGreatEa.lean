/- Ported. -/
import Derived.Test.YtjhbgedobkpdhaaGreatK1
import Derived.Test.YtjhbgedobkpdhaaGreatG23
namespace Go.Proofs.YtjhbgedobkpdhaaGreat
set_option linter.unusedVariables false
set_option linter.unusedSimpArgs false
open Go.ChangeShapes Go.WideShapes Go.ChangeAt Go.RowKit
theorem hullA_moved {l : List Sp} {d : Int} (h : l ≠ []) : hullA (moved l d) = hullA l + d := by
  cases l with
  | nil => exact absurd rfl h
  | cons s r => rfl
theorem hullB_moved {l : List Sp} {d : Int} (h : l ≠ []) : hullB (moved l d) = hullB l + d := by
  have hl : l.length - 1 < l.length := by have := List.length_pos_iff.2 h; omega
  have hm : (moved l d).length = l.length := by unfold moved; simp
  unfold hullB
  rw [hm, List.getD_eq_getElem?_getD, List.getD_eq_getElem?_getD, List.getElem?_eq_getElem (by rw [hm]; exact hl), List.getElem?_eq_getElem hl]
  simp [moved]
/-- A tick at one end of a set. -/
structure EdgeOk (ed : List Sp → Int) : Prop where
  mv : ∀ l d, l ≠ [] → ed (moved l d) = ed l + d
  ord : ∀ a b, Good a → Good b → a ≠ [] → b ≠ [] → Ahd a b → ed a < ed b
  rng : ∀ l, Good l → l ≠ [] → -1099511627776 ≤ ed l ∧ ed l ≤ 1099511627776
theorem hull_le {l : List Sp} (g : Good l) (h : l ≠ []) : hullA l ≤ hullB l := by
  obtain ⟨x, hx, ex⟩ := hullB_mem h
  have := hullA_le g hx
  obtain ⟨i, hi, rfl⟩ := List.getElem_of_mem hx
  have := (good_at g i hi).2.1
  omega
theorem ahd_edge {a b : List Sp} (ha : a ≠ []) (hb : b ≠ []) (h : Ahd a b) : hullB a < hullA b := by
  obtain ⟨x, hx, ex⟩ := hullB_mem ha
  obtain ⟨y, hy, ey⟩ := hullA_mem hb
  have := h x hx y hy
  omega
theorem hull_rng {l : List Sp} (f : Fit l) (h : l ≠ []) : (-1099511627776 ≤ hullA l ∧ hullA l ≤ 1099511627776) ∧ -1099511627776 ≤ hullB l ∧ hullB l ≤ 1099511627776 := by
  obtain ⟨x, hx, ex⟩ := hullB_mem h
  obtain ⟨y, hy, ey⟩ := hullA_mem h
  have := f x hx
  have := f y hy
  omega
theorem edgeA : EdgeOk hullA := ⟨fun l d h => hullA_moved h, fun a b ga gb ha hb q => by have := ahd_edge ha hb q; have := hull_le ga ha; omega, fun l g h => (hull_rng (fit_good g) h).1⟩
theorem edgeB : EdgeOk hullB := ⟨fun l d h => hullB_moved h, fun a b ga gb ha hb q => by have := ahd_edge ha hb q; have := hull_le gb hb; omega, fun l g h => (hull_rng (fit_good g) h).2⟩
/-- The least index of all integers for which the core has a granule whose edge is at t or behind it. -/
structure CoreIs (cs : List (List Sp)) (P N : Int) (ed : List Sp → Int) (t i : Int) : Prop where
  full : Full cs N
  here : cg cs P N i ≠ []
  ge : t ≤ ed (cg cs P N i)
  low : ∀ k, k < i → cg cs P N k ≠ [] → ed (cg cs P N k) < t
  far : -8796093022208 ≤ P * i.fdiv N ∧ P * i.fdiv N ≤ 8796093022208
  lo : -1152921504606846976 ≤ i
  hi : i ≤ 1152921504606846976
theorem pair_edge {cs : List (List Sp)} {ed : List Sp → Int} (he : EdgeOk ed) (g : ∀ l ∈ cs, Good l) (o : cs.Pairwise Ahd) {i j : Nat} (hi : i < cs.length) (hj : j < cs.length) (q : i ≤ j) (ni : cs[i] ≠ []) (nj : cs[j] ≠ []) : ed cs[i] ≤ ed cs[j] := by
  rcases Nat.lt_or_eq_of_le q with z | rfl
  · exact Int.le_of_lt (he.ord _ _ (g _ (List.getElem_mem hi)) (g _ (List.getElem_mem hj)) ni nj (List.pairwise_iff_getElem.1 o i j hi hj z))
  · exact Int.le_refl _
theorem core_least {cs : List (List Sp)} {P N : Int} {ed : List Sp → Int} {t : Int} (he : EdgeOk ed) (h : Full cs N) (hN : N ≤ 10000) (g : ∀ l ∈ cs, Good l) (o : cs.Pairwise Ahd) (hP : 1 ≤ P) (hP2 : P ≤ 1099511627776) (tl : -2199023255552 ≤ t) (th : t ≤ 2199023255552)
    {last : Nat} (hl : last < cs.length) (hn : cs[last] ≠ []) (hz : ∀ j (h : j < cs.length), last < j → cs[j] = []) {turn : Int} (t1 : t - ed cs[last] ≤ P * turn) (t2 : P * (turn - 1) < t - ed cs[last])
    {a : Nat} (ha : a ≤ cs.length) (h1 : ∀ h : a < cs.length, cs[a] ≠ [] ∧ t - P * turn ≤ ed cs[a]) (h2 : ∀ j (h : j < cs.length), j < a → cs[j] ≠ [] → ed cs[j] < t - P * turn) : a < cs.length ∧ CoreIs cs P N ed t (turn * N + a) := by
  have hN2 := h.2
  have hN1 := h.1
  have al : a < cs.length := by
    rcases Nat.lt_or_ge a cs.length with z | z
    · exact z
    · have := h2 last hl (by omega) hn
      omega
  obtain ⟨a1, a2⟩ := h1 al
  have gl := g _ (List.getElem_mem hl)
  have ga := g _ (List.getElem_mem al)
  have rl := he.rng _ gl hn
  have e1 : turn * N + (a : Int) = (a : Int) + N * turn := by rw [Int.mul_comm]; omega
  have ec : cg cs P N (turn * N + (a : Int)) = moved cs[a] (P * turn) := by rw [e1, cg_nexts h, cg_nat h al]
  have ef : (turn * N + (a : Int)).fdiv N = turn := by
    have m : (turn * N + (a : Int)).fmod N = a := fmod_of (q := turn) (by omega) (by omega) (by rw [e1]; omega)
    have e := fmod_eq (turn * N + (a : Int)) N
    rw [m] at e
    have : N * (turn * N + (a : Int)).fdiv N = N * turn := by rw [e1] at e ⊢; omega
    exact Int.eq_of_mul_eq_mul_left (by omega) this
  have pt : P * (turn - 1) = P * turn - P := by rw [Int.mul_sub, Int.mul_one]
  have tb : -8796093022208 ≤ turn ∧ turn ≤ 8796093022208 := by
    constructor
    · rcases Int.lt_or_le turn 0 with z | z
      · have : P * turn ≤ 1 * turn := by
          have := Int.mul_le_mul_of_nonneg_right (c := -turn) hP (by omega)
          rw [Int.mul_neg, Int.mul_neg] at this; omega
        omega
      · omega
    · rcases Int.lt_or_le 0 turn with z | z
      · have := Int.mul_le_mul_of_nonneg_right (c := turn - 1) hP (by omega)
        omega
      · omega
  refine ⟨al, h, by rw [ec]; exact moved_ne.2 a1, by rw [ec, he.mv _ _ a1]; omega, fun k hk hne => ?_, by rw [ef]; omega, ?_, ?_⟩
  · obtain ⟨r, q, hr, e, c⟩ := cg_split (P := P) h k
    rw [c] at hne ⊢
    have hr0 := moved_ne.1 hne
    rw [he.mv _ _ hr0]
    have rlast : r ≤ last := by
      rcases Nat.lt_or_ge last r with z | z
      · exact absurd (hz r hr z) hr0
      · exact z
    rcases Int.lt_trichotomy q turn with z | rfl | z
    · have m1 := pair_edge he g o hr hl rlast hr0 hn
      have m2 : P * q ≤ P * (turn - 1) := Int.mul_le_mul_of_nonneg_left (by omega) (by omega)
      omega
    · have : r < a := by rw [e1] at hk; omega
      have := h2 r hr this hr0
      omega
    · have : N * (turn + 1) ≤ N * q := Int.mul_le_mul_of_nonneg_left (by omega) (by omega)
      rw [Int.mul_add, Int.mul_one] at this
      rw [e1] at hk
      omega
  · have : (-8796093022208) * N ≤ turn * N := Int.mul_le_mul_of_nonneg_right tb.1 (by omega)
    omega
  · have : turn * N ≤ 8796093022208 * N := Int.mul_le_mul_of_nonneg_right tb.2 (by omega)
    omega
/-- A granule that exists. -/
def Ex (F : Fv) (i : Int) : Prop := InR i ∧ Fit (gr F i) ∧ gr F i ≠ []
def FromIs (F : Fv) (t i : Int) (ok : Bool) : Prop := (ok = true → Ex F i ∧ t ≤ hullB (gr F i) ∧ ∀ k, Ex F k → t ≤ hullB (gr F k) → i ≤ k) ∧ (ok = false → i = 0 ∧ ∀ k, Ex F k → hullB (gr F k) < t)
def TillIs (F : Fv) (t i : Int) (ok : Bool) : Prop := (ok = true → Ex F i ∧ hullA (gr F i) ≤ t ∧ ∀ k, Ex F k → hullA (gr F k) ≤ t → k ≤ i) ∧ (ok = false → i = 0 ∧ ∀ k, Ex F k → t < hullA (gr F k))
/-- The first of sets in order whose edge is at t or behind it. -/
structure LeastIs (ls : List (List Sp)) (ed : List Sp → Int) (t : Int) (n : Nat) : Prop where
  le : n ≤ ls.length
  here : ∀ h : n < ls.length, ls[n] ≠ [] ∧ t ≤ ed ls[n]
  low : ∀ j (h : j < ls.length), j < n → ls[j] ≠ [] → ed ls[j] < t
def FromCoreIs (F : Fv) (t i : Int) (ok : Bool) : Prop := (ok = true → cg F.cs F.P F.N i ≠ [] ∧ t ≤ hullB (cg F.cs F.P F.N i) ∧ -1099511627776 ≤ hullA (cg F.cs F.P F.N i) ∧ (∀ k, k < i → cg F.cs F.P F.N k ≠ [] → hullB (cg F.cs F.P F.N k) < t ∨ hullA (cg F.cs F.P F.N k) < -1099511627776) ∧ -1152921504606846976 ≤ i ∧ i ≤ 1152921504606846976) ∧ (ok = false → ∀ k, cg F.cs F.P F.N k = [])
def TillCoreIs (F : Fv) (t i : Int) (ok : Bool) : Prop := (ok = true → InR i ∧ cg F.cs F.P F.N i ≠ [] ∧ hullA (cg F.cs F.P F.N i) ≤ t ∧ hullB (cg F.cs F.P F.N i) ≤ 1099511627776 ∧ ∀ k, i < k → InR k → cg F.cs F.P F.N k ≠ [] → t < hullA (cg F.cs F.P F.N k) ∨ 1099511627776 < hullB (cg F.cs F.P F.N k)) ∧ (ok = false → ∀ k, InR k → cg F.cs F.P F.N k ≠ [] → t < hullA (cg F.cs F.P F.N k) ∨ 1099511627776 < hullB (cg F.cs F.P F.N k))
/-- The last one of the first n exceptions that has ticks. -/
def EarlyIs (os : List Gr) (n : Nat) (e : Int) (some_ : Bool) : Prop := (some_ = true → ∃ m, ∃ h : m < os.length, m < n ∧ os[m].2 ≠ [] ∧ os[m].1 = e ∧ ∀ j (h : j < os.length), m < j → j < n → os[j].2 = []) ∧ (some_ = false → ∀ j (h : j < os.length), j < n → os[j].2 = [])
def UpIs (F : Fv) (i j : Int) (ok : Bool) : Prop := (ok = true → InR j ∧ i < j ∧ gr F j ≠ [] ∧ ∀ k, i < k → k < j → InR k → gr F k = []) ∧ (ok = false → ∀ k, i < k → InR k → gr F k = [])
def DnIs (F : Fv) (i j : Int) (ok : Bool) : Prop := (ok = true → InR j ∧ j < i ∧ gr F j ≠ [] ∧ ∀ k, j < k → k < i → InR k → gr F k = []) ∧ (ok = false → ∀ k, k < i → InR k → gr F k = [])
theorem gr_cases (F : Fv) (k : Int) : (∃ n, ∃ h : n < F.os.length, F.os[n].1 = k ∧ gr F k = F.os[n].2) ∨ gr F k = cg F.cs F.P F.N k := by
  cases e : exc F.os k with
  | none => exact .inr (gr_free e)
  | some l =>
    obtain ⟨n, h, a, b⟩ := exc_some e
    refine .inl ⟨n, h, a, ?_⟩
    unfold gr; rw [e]; exact b.symm
theorem os_idx {os : List Gr} (h : os.Pairwise (fun a b => a.1 < b.1)) {i j : Nat} (hi : i < os.length) (hj : j < os.length) (q : os[i].1 < os[j].1) : i < j := by
  rcases Nat.lt_or_ge i j with z | z
  · exact z
  · have := inc_le h j i hj hi z; omega
theorem ex_order {F : Fv} (h : F.Rt) (ok : F.Ok) (hl : F.cs.length = F.cn) {i k : Int} (hi : InR i) (hk : InR k) (q : i < k) (ni : gr F i ≠ []) (nk : gr F k ≠ []) : hullB (gr F i) < hullA (gr F k) :=
  ahd_edge ni nk (gr_order h ok hl _ (Nat.le_refl _) q hi.1 hk.2)
theorem cg_lt {F : Fv} (h : F.Rt) (ok : F.Ok) (hl : F.cs.length = F.cn) {i k : Int} (q : i < k) (ni : cg F.cs F.P F.N i ≠ []) (nk : cg F.cs F.P F.N k ≠ []) : hullB (cg F.cs F.P F.N i) < hullA (cg F.cs F.P F.N k) := ahd_edge ni nk (core_order h hl q)
theorem gr_le {F : Fv} (h : F.Rt) (ok : F.Ok) (hl : F.cs.length = F.cn) {i : Int} (ni : gr F i ≠ []) : hullA (gr F i) ≤ hullB (gr F i) := by
  obtain ⟨l, d, g, e⟩ := gr_core ok i
  rw [e] at ni ⊢
  have n0 := moved_ne.1 ni
  rw [hullA_moved n0, hullB_moved n0]
  have := hull_le g n0
  omega
theorem gr_fit {F : Fv} (h : F.Rt) (ok : F.Ok) (hl : F.cs.length = F.cn) {i : Int} (ni : gr F i ≠ []) (h1 : -1099511627776 ≤ hullA (gr F i)) (h2 : hullB (gr F i) ≤ 1099511627776) : Fit (gr F i) := by
  obtain ⟨l, d, g, e⟩ := gr_core ok i
  rw [e] at ni h1 h2 ⊢
  have n0 := moved_ne.1 ni
  rw [hullA_moved n0] at h1
  rw [hullB_moved n0] at h2
  intro s hs
  obtain ⟨u, hu, rfl⟩ := List.mem_map.1 hs
  have a := hullA_le g hu
  have b := le_hullB g hu
  obtain ⟨j, hj, rfl⟩ := List.getElem_of_mem hu
  have c := (good_at g j hj).2.1
  exact ⟨⟨by simp only; omega, by simp only; omega⟩, by simp only; omega, by simp only; omega⟩
theorem odd_ex {F : Fv} (h : F.Rt) (ok : F.Ok) (hl : F.cs.length = F.cn) {n : Nat} (hn : n < F.os.length) (ne : F.os[n].2 ≠ []) : Ex F F.os[n].1 ∧ gr F F.os[n].1 = F.os[n].2 := by
  have e := gr_at ok.odd.inc n hn
  have g := ok.odd.good _ (List.getElem_mem hn)
  exact ⟨⟨g.2, by rw [e]; exact fit_good g.1, by rw [e]; exact ne⟩, e⟩
theorem odd_mono {F : Fv} (h : F.Rt) (ok : F.Ok) (hl : F.cs.length = F.cn) {i j : Nat} (hi : i < F.os.length) (hj : j < F.os.length) (q : i < j) (ni : F.os[i].2 ≠ []) (nj : F.os[j].2 ≠ []) : hullB F.os[i].2 < hullA F.os[j].2 := by
  obtain ⟨a, e⟩ := odd_ex h ok hl hi ni
  obtain ⟨b, f⟩ := odd_ex h ok hl hj nj
  have := ex_order h ok hl a.1 b.1 (inc_at ok.odd.inc i j hi hj q) a.2.2 b.2.2
  rw [e, f] at this
  exact this
theorem odd_edge {F : Fv} (h : F.Rt) (ok : F.Ok) (hl : F.cs.length = F.cn) {ed : List Sp → Int} (he : EdgeOk ed) {i j : Nat} (hi : i < (tks F.os).length) (hj : j < (tks F.os).length) (q : i ≤ j) (ni : (tks F.os)[i] ≠ []) (nj : (tks F.os)[j] ≠ []) : ed (tks F.os)[i] ≤ ed (tks F.os)[j] := by
  rcases Nat.lt_or_eq_of_le q with z | rfl
  · have hi2 : i < F.os.length := by unfold tks at hi; rwa [List.length_map] at hi
    have hj2 : j < F.os.length := by unfold tks at hj; rwa [List.length_map] at hj
    have ei : (tks F.os)[i] = F.os[i].2 := by unfold tks; rw [List.getElem_map]
    have ej : (tks F.os)[j] = F.os[j].2 := by unfold tks; rw [List.getElem_map]
    rw [ei] at ni ⊢
    rw [ej] at nj ⊢
    obtain ⟨a, e⟩ := odd_ex h ok hl hi2 ni
    obtain ⟨b, f⟩ := odd_ex h ok hl hj2 nj
    have o := gr_order h ok hl _ (Nat.le_refl _) (inc_at ok.odd.inc i j hi2 hj2 z) a.1.1 b.1.2
    rw [e, f] at o
    exact Int.le_of_lt (he.ord _ _ (ok.odd.good _ (List.getElem_mem hi2)).1 (ok.odd.good _ (List.getElem_mem hj2)).1 ni nj o)
  · exact Int.le_refl _
theorem from_odd {F : Fv} (h : F.Rt) (ok : F.Ok) (hl : F.cs.length = F.cn) {t c : Int} {n : Nat} {okc : Bool} (hn : n < F.os.length) (a1 : F.os[n].2 ≠ []) (a2 : t ≤ hullB F.os[n].2) (a3 : ∀ j (q : j < F.os.length), j < n → F.os[j].2 ≠ [] → hullB F.os[j].2 < t) (hc : FromCoreIs F t c okc) (q : okc = true → F.os[n].1 ≤ c) : FromIs F t F.os[n].1 true := by
  obtain ⟨x, e⟩ := odd_ex h ok hl hn a1
  refine ⟨fun _ => ⟨x, by rw [e]; exact a2, fun k ek tk => ?_⟩, fun z => by cases z⟩
  rcases Int.lt_or_le k F.os[n].1 with z | z
  · exfalso
    rcases gr_cases F k with ⟨m, hm, m1, m2⟩ | g
    · have lt : m < n := os_idx ok.odd.inc hm hn (by rw [m1]; exact z)
      have := a3 m hm lt (by rw [← m2]; exact ek.2.2)
      rw [← m2] at this
      omega
    · have nk := ek.2.2
      have fk := hull_rng ek.2.1 nk
      rw [g] at nk tk fk
      cases okc with
      | false => exact nk (hc.2 rfl k)
      | true =>
        have := (hc.1 rfl).2.2.2.1 k (by have := q rfl; omega) nk
        omega
  · exact z
theorem from_none {F : Fv} (h : F.Rt) (ok : F.Ok) (hl : F.cs.length = F.cn) {t c : Int} (a3 : ∀ j (q : j < F.os.length), F.os[j].2 ≠ [] → hullB F.os[j].2 < t) (hc : FromCoreIs F t c false) : FromIs F t 0 false := by
  refine ⟨(fun z => by cases z), fun _ => ⟨rfl, fun k ek => ?_⟩⟩
  rcases gr_cases F k with ⟨m, hm, m1, m2⟩ | g
  · rw [m2]; exact a3 m hm (by rw [← m2]; exact ek.2.2)
  · exact absurd (by rw [g]; exact hc.2 rfl k) ek.2.2
theorem from_core {F : Fv} (h : F.Rt) (ok : F.Ok) (hl : F.cs.length = F.cn) {t c i j : Int} {n : Nat} {b r : Bool} (t1 : -1099511627776 ≤ t) (le : n ≤ F.os.length) (a1 : ∀ q : n < F.os.length, F.os[n].2 ≠ [] ∧ t ≤ hullB F.os[n].2 ∧ c < F.os[n].1) (a3 : ∀ j (q : j < F.os.length), j < n → F.os[j].2 ≠ [] → hullB F.os[j].2 < t) (hc : FromCoreIs F t c true)
    (e1 : c - 1 ≤ i) (e2 : ∀ m (q : m < F.os.length), m < n → F.os[m].2 ≠ [] → F.os[m].1 ≤ i) (e3 : i = c - 1 ∨ ∃ m, ∃ q : m < F.os.length, m < n ∧ F.os[m].2 ≠ [] ∧ F.os[m].1 = i) (hu : UpIs F i j b) (hr : r = true ↔ b = true ∧ Ex F j) : FromIs F t (if r then j else 0) r := by
  obtain ⟨c1, c2, c3, c4, _⟩ := hc.1 rfl
  -- all that is sought lies behind i
  have key : ∀ k, Ex F k → t ≤ hullB (gr F k) → i < k := fun k ek tk => by
    rcases gr_cases F k with ⟨m, hm, m1, m2⟩ | g
    · have mn : F.os[m].2 ≠ [] := by rw [← m2]; exact ek.2.2
      have nm : n ≤ m := by
        rcases Nat.lt_or_ge m n with z | z
        · have := a3 m hm z mn; rw [← m2] at this; omega
        · exact z
      have hn : n < F.os.length := by omega
      have cn := (a1 hn).2.2
      have kn := inc_le ok.odd.inc n m hn hm nm
      rcases e3 with rfl | ⟨p, hp, p1, p2, rfl⟩
      · omega
      · have := inc_at ok.odd.inc p n hp hn p1
        omega
    · have nk := ek.2.2
      have fk := hull_rng ek.2.1 nk
      rw [g] at nk tk fk
      have ck : c ≤ k := by
        rcases Int.lt_or_le k c with z | z
        · have := c4 k z nk; omega
        · exact z
      rcases e3 with rfl | ⟨p, hp, p1, p2, rfl⟩
      · omega
      · obtain ⟨ep, ge⟩ := odd_ex h ok hl hp p2
        rcases Int.lt_trichotomy k F.os[p].1 with z | z | z
        · have := ex_order h ok hl ek.1 ep.1 z ek.2.2 ep.2.2
          have l2 := gr_le h ok hl ep.2.2
          have l3 := a3 p hp p1 p2
          rw [ge] at l2 this
          rw [g] at this
          omega
        · have l3 := a3 p hp p1 p2
          rw [z, ge] at g
          rw [z, ← g] at tk
          omega
        · exact z
  have edge : b = true → t ≤ hullB (gr F j) ∧ (gr F j = cg F.cs F.P F.N j → -1099511627776 ≤ hullA (gr F j)) := fun hb => by
    obtain ⟨j1, j2, j3, j4⟩ := hu.1 hb
    have cj : c ≤ j := by omega
    have core : gr F j = cg F.cs F.P F.N j → t ≤ hullB (gr F j) ∧ -1099511627776 ≤ hullA (gr F j) := fun g => by
      rw [g] at j3 ⊢
      rcases Int.lt_or_eq_of_le cj with z | rfl
      · have := cg_lt h ok hl z c1 j3
        have l1 : hullA (cg F.cs F.P F.N j) ≤ hullB (cg F.cs F.P F.N j) := by rw [← g]; exact gr_le h ok hl (by rw [g]; exact j3)
        omega
      · exact ⟨c2, c3⟩
    refine ⟨?_, fun g => (core g).2⟩
    rcases gr_cases F j with ⟨m, hm, m1, m2⟩ | g
    · have mn : F.os[m].2 ≠ [] := by rw [← m2]; exact j3
      have nm : n ≤ m := by
        rcases Nat.lt_or_ge m n with z | z
        · have := e2 m hm z mn; omega
        · exact z
      have hn : n < F.os.length := by omega
      rw [m2]
      rcases Nat.lt_or_eq_of_le nm with z | rfl
      · have := odd_mono h ok hl hn hm z (a1 hn).1 mn
        have l2 := hull_le (ok.odd.good _ (List.getElem_mem hm)).1 mn
        have := (a1 hn).2.1
        omega
      · exact (a1 hn).2.1
    · exact (core g).1
  refine ⟨fun e => ?_, fun e => ?_⟩
  · subst e
    obtain ⟨hb, ex⟩ := hr.1 rfl
    obtain ⟨j1, j2, j3, j4⟩ := hu.1 hb
    refine ⟨ex, (edge hb).1, fun k ek tk => ?_⟩
    show j ≤ k
    rcases Int.lt_or_le k j with z | z
    · exact absurd (j4 k (key k ek tk) z ek.1) ek.2.2
    · exact z
  · subst e
    refine ⟨rfl, fun k ek => ?_⟩
    rcases Int.lt_or_le (hullB (gr F k)) t with z | z
    · exact z
    · exfalso
      have ik := key k ek z
      cases b with
      | false => exact ek.2.2 (hu.2 rfl k ik ek.1)
      | true =>
        obtain ⟨j1, j2, j3, j4⟩ := hu.1 rfl
        have nx : ¬ Ex F j := fun x => by have := hr.2 ⟨rfl, x⟩; cases this
        have jk : j ≤ k := by
          rcases Int.lt_or_le k j with y | y
          · exact absurd (j4 k ik y ek.1) ek.2.2
          · exact y
        have jk : j < k := by
          rcases Int.lt_or_eq_of_le jk with y | rfl
          · exact y
          · exact absurd ek nx
        have o := ex_order h ok hl j1 ek.1 jk j3 ek.2.2
        have fk := hull_rng ek.2.1 ek.2.2
        have e2 := edge rfl
        have fj : -1099511627776 ≤ hullA (gr F j) := by
          rcases gr_cases F j with ⟨m, hm, m1, m2⟩ | g
          · obtain ⟨x, y⟩ := odd_ex h ok hl hm (by rw [← m2]; exact j3)
            rw [m1] at x
            exact absurd x nx
          · exact e2.2 g
        exact nx ⟨j1, gr_fit h ok hl j3 fj (by omega), j3⟩
theorem till_odd {F : Fv} (h : F.Rt) (ok : F.Ok) (hl : F.cs.length = F.cn) {t c : Int} {late m : Nat} {okc : Bool} (hm : m < F.os.length) (ml : m < late) (a1 : F.os[m].2 ≠ []) (a2 : ∀ j (q : j < F.os.length), m < j → j < late → F.os[j].2 = []) (b1 : ∀ q : late < F.os.length, F.os[late].2 ≠ [] ∧ t + 1 ≤ hullA F.os[late].2) (b2 : ∀ j (q : j < F.os.length), j < late → F.os[j].2 ≠ [] → hullA F.os[j].2 < t + 1) (hc : TillCoreIs F t c okc) (q : okc = true → c ≤ F.os[m].1) : TillIs F t F.os[m].1 true := by
  obtain ⟨x, e⟩ := odd_ex h ok hl hm a1
  refine ⟨fun _ => ⟨x, by rw [e]; have := b2 m hm ml a1; omega, fun k ek tk => ?_⟩, fun z => by cases z⟩
  rcases Int.lt_or_le F.os[m].1 k with z | z
  · exfalso
    rcases gr_cases F k with ⟨p, hp, m1, m2⟩ | g
    · have lt : m < p := os_idx ok.odd.inc hm hp (by rw [m1]; exact z)
      have pn : F.os[p].2 ≠ [] := by rw [← m2]; exact ek.2.2
      have lp : late ≤ p := by
        rcases Nat.lt_or_ge p late with y | y
        · exact absurd (a2 p hp lt y) pn
        · exact y
      have hla : late < F.os.length := by omega
      obtain ⟨l1, l2⟩ := b1 hla
      rw [m2] at tk
      rcases Nat.lt_or_eq_of_le lp with y | rfl
      · have := odd_mono h ok hl hla hp y l1 pn
        have := hull_le (ok.odd.good _ (List.getElem_mem hla)).1 l1
        omega
      · omega
    · have nk := ek.2.2
      have fk := hull_rng ek.2.1 nk
      rw [g] at nk tk fk
      cases okc with
      | false => have := hc.2 rfl k ek.1 nk; omega
      | true => have := (hc.1 rfl).2.2.2.2 k (by have := q rfl; omega) ek.1 nk; omega
  · exact z
theorem till_none {F : Fv} (h : F.Rt) (ok : F.Ok) (hl : F.cs.length = F.cn) {t c : Int} {late : Nat} (a2 : ∀ j (q : j < F.os.length), j < late → F.os[j].2 = []) (b1 : ∀ q : late < F.os.length, F.os[late].2 ≠ [] ∧ t + 1 ≤ hullA F.os[late].2) (hc : TillCoreIs F t c false) : TillIs F t 0 false := by
  refine ⟨(fun z => by cases z), fun _ => ⟨rfl, fun k ek => ?_⟩⟩
  rcases gr_cases F k with ⟨p, hp, m1, m2⟩ | g
  · have pn : F.os[p].2 ≠ [] := by rw [← m2]; exact ek.2.2
    have lp : late ≤ p := by
      rcases Nat.lt_or_ge p late with y | y
      · exact absurd (a2 p hp y) pn
      · exact y
    have hla : late < F.os.length := by omega
    obtain ⟨l1, l2⟩ := b1 hla
    rw [m2]
    rcases Nat.lt_or_eq_of_le lp with y | rfl
    · have := odd_mono h ok hl hla hp y l1 pn
      have := hull_le (ok.odd.good _ (List.getElem_mem hla)).1 l1
      omega
    · omega
  · have nk := ek.2.2
    have fk := hull_rng ek.2.1 nk
    rw [g] at nk fk ⊢
    have := hc.2 rfl k ek.1 nk
    omega
theorem till_core {F : Fv} (h : F.Rt) (ok : F.Ok) (hl : F.cs.length = F.cn) {t c i j : Int} {late : Nat} {b r : Bool} (t1 : t ≤ 1099511627776) (le : late ≤ F.os.length) (b1 : ∀ q : late < F.os.length, F.os[late].2 ≠ [] ∧ t + 1 ≤ hullA F.os[late].2) (b2 : ∀ j (q : j < F.os.length), j < late → F.os[j].2 ≠ [] → hullA F.os[j].2 < t + 1) (e : ∀ m (q : m < F.os.length), m < late → F.os[m].2 ≠ [] → F.os[m].1 < c) (hc : TillCoreIs F t c true)
    (i1 : i ≤ c + 1) (i2 : ∀ q : late < F.os.length, i ≤ F.os[late].1) (i3 : i = c + 1 ∨ ∃ q : late < F.os.length, i = F.os[late].1) (hd : DnIs F i j b) (hr : r = true ↔ b = true ∧ Ex F j) : TillIs F t (if r then j else 0) r := by
  obtain ⟨c0, c1, c2, c3, c4⟩ := hc.1 rfl
  have key : ∀ k, Ex F k → hullA (gr F k) ≤ t → k < i := fun k ek tk => by
    rcases gr_cases F k with ⟨m, hm, m1, m2⟩ | g
    · have mn : F.os[m].2 ≠ [] := by rw [← m2]; exact ek.2.2
      have nm : m < late := by
        rcases Nat.lt_or_ge m late with z | z
        · exact z
        · exfalso
          have hla : late < F.os.length := by omega
          obtain ⟨l1, l2⟩ := b1 hla
          rw [m2] at tk
          rcases Nat.lt_or_eq_of_le z with y | rfl
          · have := odd_mono h ok hl hla hm y l1 mn
            have := hull_le (ok.odd.good _ (List.getElem_mem hla)).1 l1
            omega
          · omega
      have kc := e m hm nm mn
      rcases i3 with rfl | ⟨q, rfl⟩
      · omega
      · have := inc_at ok.odd.inc m late hm q nm; omega
    · have nk := ek.2.2
      have fk := hull_rng ek.2.1 nk
      rw [g] at nk tk fk
      have ck : k ≤ c := by
        rcases Int.lt_or_le c k with z | z
        · have := c4 k z ek.1 nk; omega
        · exact z
      rcases i3 with rfl | ⟨q, rfl⟩
      · omega
      · obtain ⟨l1, l2⟩ := b1 q
        obtain ⟨ep, ge⟩ := odd_ex h ok hl q l1
        rcases Int.lt_trichotomy k F.os[late].1 with z | z | z
        · exact z
        · rw [z, ge] at g
          rw [z, ← g] at tk
          omega
        · have := ex_order h ok hl ep.1 ek.1 z ep.2.2 ek.2.2
          have l3 := gr_le h ok hl ep.2.2
          rw [ge] at l3 this
          rw [g] at this
          omega
  have edge : b = true → hullA (gr F j) ≤ t ∧ (gr F j = cg F.cs F.P F.N j → hullB (gr F j) ≤ 1099511627776) := fun hb => by
    obtain ⟨j1, j2, j3, j4⟩ := hd.1 hb
    have cj : j ≤ c := by omega
    have core : gr F j = cg F.cs F.P F.N j → hullA (gr F j) ≤ t ∧ hullB (gr F j) ≤ 1099511627776 := fun g => by
      rw [g] at j3 ⊢
      rcases Int.lt_or_eq_of_le cj with z | rfl
      · have := cg_lt h ok hl z j3 c1
        have l1 : hullA (cg F.cs F.P F.N j) ≤ hullB (cg F.cs F.P F.N j) := by rw [← g]; exact gr_le h ok hl (by rw [g]; exact j3)
        omega
      · exact ⟨c2, c3⟩
    refine ⟨?_, fun g => (core g).2⟩
    rcases gr_cases F j with ⟨m, hm, m1, m2⟩ | g
    · have mn : F.os[m].2 ≠ [] := by rw [← m2]; exact j3
      have nm : m < late := by
        rcases Nat.lt_or_ge m late with z | z
        · exact z
        · have hla : late < F.os.length := by omega
          have := i2 hla
          have := inc_le ok.odd.inc late m hla hm z
          omega
      rw [m2]
      have := b2 m hm nm mn
      omega
    · exact (core g).1
  refine ⟨fun e => ?_, fun e => ?_⟩
  · subst e
    obtain ⟨hb, ex⟩ := hr.1 rfl
    obtain ⟨j1, j2, j3, j4⟩ := hd.1 hb
    refine ⟨ex, (edge hb).1, fun k ek tk => ?_⟩
    show k ≤ j
    rcases Int.lt_or_le j k with z | z
    · exact absurd (j4 k z (key k ek tk) ek.1) ek.2.2
    · exact z
  · subst e
    refine ⟨rfl, fun k ek => ?_⟩
    rcases Int.lt_or_le t (hullA (gr F k)) with z | z
    · exact z
    · exfalso
      have ik := key k ek z
      cases b with
      | false => exact ek.2.2 (hd.2 rfl k ik ek.1)
      | true =>
        obtain ⟨j1, j2, j3, j4⟩ := hd.1 rfl
        have nx : ¬ Ex F j := fun x => by have := hr.2 ⟨rfl, x⟩; cases this
        have jk : k ≤ j := by
          rcases Int.lt_or_le j k with y | y
          · exact absurd (j4 k y ik ek.1) ek.2.2
          · exact y
        have jk : k < j := by
          rcases Int.lt_or_eq_of_le jk with y | rfl
          · exact y
          · exact absurd ek nx
        have o := ex_order h ok hl ek.1 j1 jk ek.2.2 j3
        have fk := hull_rng ek.2.1 ek.2.2
        have e2 := edge rfl
        have fj : hullB (gr F j) ≤ 1099511627776 := by
          rcases gr_cases F j with ⟨m, hm, m1, m2⟩ | g
          · obtain ⟨x, y⟩ := odd_ex h ok hl hm (by rw [← m2]; exact j3)
            rw [m1] at x
            exact absurd x nx
          · exact e2.2 g
        exact nx ⟨j1, gr_fit h ok hl j3 (by omega) fj, j3⟩
theorem first_any (ao : Option Addr) (n c : Nat) (l : List Sp) (w : World) (hw : SpAt w ao n c l) (hn : l ≠ []) : Calls Tryz.prog 36 #[.slice ao n c] w fun e w' => e = .returned (.int .i64 (hullA l)) ∧ w' = w := by
  have h0 : 0 < l.length := List.length_pos_iff.2 hn
  have hl := hw.len
  obtain ⟨b, p, rfl, hc⟩ := hw.here (by omega)
  have c1 := (hc 0 h0).1
  have e1 : l[0].1 = hullA l := by unfold hullA; rw [List.getD_eq_getElem?_getD, List.getElem?_eq_getElem h0]; rfl
  rw [e1] at c1
  have c1 : w.cell? ⟨b, p, none⟩ = some (.int .i64 (hullA l)) := by simpa using c1
  have n0 : (0 : Int) < (n : Int) := by omega
  have n1 : n ≤ 9223372036854775807 := Nat.le_trans hw.le hw.top
  generalize hullA l = x at c1 ⊢
  clear hc e1 hw
  clear hl h0
  go_enter Tryz.func36, Tryz.ntmps36
  go_wp2
  go_returns
  exact ⟨rfl, rfl⟩
theorem last_any (ao : Option Addr) (n c : Nat) (l : List Sp) (w : World) (hw : SpAt w ao n c l) (hn : l ≠ []) : Calls Tryz.prog 31 #[.slice ao n c] w fun e w' => e = .returned (.int .i64 (hullB l)) ∧ w' = w := by
  have h0 : 0 < l.length := List.length_pos_iff.2 hn
  have hl := hw.len
  obtain ⟨b, p, rfl, hc⟩ := hw.here (by omega)
  obtain ⟨m, rfl⟩ : ∃ m, n = m + 1 := ⟨n - 1, by omega⟩
  have hm : m < l.length := by omega
  have c1 := (hc m hm).2
  have e1 : l[m].2 = hullB l := by unfold hullB; rw [show l.length - 1 = m by omega, List.getD_eq_getElem?_getD, List.getElem?_eq_getElem hm]; rfl
  rw [e1] at c1
  have n1 : m + 1 ≤ 9223372036854775807 := Nat.le_trans hw.le hw.top
  generalize hullB l = x at c1 ⊢
  clear hc e1 hw
  clear hl h0 hm
  go_enter Tryz.func31, Tryz.ntmps31
  go_wp2
  go_returns
  exact ⟨rfl, rfl⟩
theorem oddSet_any (oo : Option Addr) (on oc : Nat) (os : List Gr) (b i : Nat) (w : World) (hb : w.cell? ⟨b, 3, none⟩ = some (.slice oo on oc)) (ho : OdAt w oo on oc os) (hi : i < os.length) : Calls Tryz.prog 59 #[.int .i64 (i : Int), .pointer (some ⟨b, 0, none⟩)] w fun e w' => ∃ ao n c, e = .returned (.slice ao n c) ∧ Hid (SpAt w ao n c os[i].2) ∧ w' = w := by
  have hl := ho.len
  have n1 : on ≤ 9223372036854775807 := Nat.le_trans ho.le ho.top
  obtain ⟨q, p, rfl, hc⟩ := ho.here (by omega)
  obtain ⟨-, ⟨o, k, d, c2, hs⟩, -⟩ := hc i hi
  have HS := Lib.hid hs
  have i0 : (0 : Int) ≤ (i : Int) := by omega
  have i1 : (i : Int) < (on : Int) := by omega
  clear hc hs ho hl
  generalize os[i].2 = L at HS ⊢
  clear hi
  go_enter Tryz.func59, Tryz.ntmps59
  go_wp2
  go_returns
  exact ⟨o, k, d, rfl, HS, rfl⟩
theorem coreSet_any (co : Option Addr) (cn cc : Nat) (cs : List (List Sp)) (b i : Nat) (w : World) (hb : w.cell? ⟨b, 2, none⟩ = some (.slice co cn cc)) (ho : CoAt w co cn cc cs) (hi : i < cs.length) : Calls Tryz.prog 81 #[.int .i64 (i : Int), .pointer (some ⟨b, 0, none⟩)] w fun e w' => ∃ ao n c, e = .returned (.slice ao n c) ∧ Hid (SpAt w ao n c cs[i]) ∧ w' = w := by
  have hl := ho.len
  have n1 : cn ≤ 9223372036854775807 := Nat.le_trans ho.le ho.top
  obtain ⟨q, p, rfl, hc⟩ := ho.here (by omega)
  obtain ⟨o, k, d, c2, hs⟩ := hc i hi
  have HS := Lib.hid hs
  have i0 : (0 : Int) ≤ (i : Int) := by omega
  have i1 : (i : Int) < (cn : Int) := by omega
  clear hc hs ho hl
  generalize cs[i] = L at HS ⊢
  clear hi
  go_enter Tryz.func81, Tryz.ntmps81
  go_wp2
  go_returns
  exact ⟨o, k, d, rfl, HS, rfl⟩
end Go.Proofs.YtjhbgedobkpdhaaGreat
