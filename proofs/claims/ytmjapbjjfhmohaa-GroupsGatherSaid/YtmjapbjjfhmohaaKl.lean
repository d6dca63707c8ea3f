/- G21, G22c in one. -/
import Derived.Test.YtmjapbjjfhmohaaKk
namespace Go.Proofs.Ytmjapbjjfhmohaa
set_option linter.unusedVariables false
set_option linter.unusedSimpArgs false
open Go.ChangeShapes Go.WideShapes Go.ChangeAt Go.RowKit
/-- The search as it stands: n the next exception to look at, j the next granule of the core. -/
structure NS (F : Fv) (i st n j : Int) (ok : Bool) : Prop where
  front : ∀ k, i * st < k * st → (ok = true → k * st < j * st) → gr F k = [] ∨ ∃ m, ∃ h : m < F.os.length, F.os[m].1 = k ∧ n * st ≤ (m : Int) * st
  here : ok = true → i * st < j * st ∧ cg F.cs F.P F.N j ≠ [] ∧ ∀ m (h : m < F.os.length), F.os[m].1 = j → n * st ≤ (m : Int) * st
  side : ∀ m (h : m < F.os.length), n * st ≤ (m : Int) * st → i * st < F.os[m].1 * st
  low : -1152921504606846976 ≤ j
  high : j ≤ 1152921504606846976
theorem os_lt {os : List Gr} (hs : os.Pairwise (fun a b => a.1 < b.1)) {st : Int} (hst : st = 1 ∨ st = -1) {a b : Nat} (ha : a < os.length) (hb : b < os.length) (h : (a : Int) * st < (b : Int) * st) : os[a].1 * st < os[b].1 * st := by
  rcases hst with rfl | rfl
  · have := inc_at hs a b ha hb (by omega); omega
  · have := inc_at hs b a hb ha (by omega); omega
theorem os_le {os : List Gr} (hs : os.Pairwise (fun a b => a.1 < b.1)) {st : Int} (hst : st = 1 ∨ st = -1) {a b : Nat} (ha : a < os.length) (hb : b < os.length) (h : os[a].1 * st < os[b].1 * st) : (a : Int) * st < (b : Int) * st := by
  rcases Int.lt_trichotomy ((a : Int) * st) ((b : Int) * st) with q | q | q
  · exact q
  · have : a = b := by rcases hst with rfl | rfl <;> omega
    subst this; omega
  · have := os_lt hs hst hb ha q; omega
theorem exc_of_none {os : List Gr} {j : Int} (h : ∀ m (h : m < os.length), os[m].1 ≠ j) : exc os j = none := by
  rw [exc_none]
  intro o ho e
  obtain ⟨m, hm, rfl⟩ := List.getElem_of_mem ho
  exact h m hm e
/-- No exception is left, or the next one lies behind the granule of the core: that is it. -/
theorem ns_end {F : Fv} {i st n j : Int} {ok : Bool} (hs : F.os.Pairwise (fun a b => a.1 < b.1)) (hst : st = 1 ∨ st = -1) (h : NS F i st n j ok) (hb : ∀ m (q : m < F.os.length), n * st ≤ (m : Int) * st → ok = true ∧ j * st < F.os[m].1 * st) : Nr F i st j ok := by
  refine ⟨fun e => ?_, fun e k k1 => ?_, h.low, h.high⟩
  · obtain ⟨h1, h2, h3⟩ := h.here e
    have hx : exc F.os j = none := exc_of_none (fun m hm z => by
      have := (hb m hm (h3 m hm z)).2
      rw [z] at this; omega)
    refine ⟨h1, by rw [gr_free hx]; exact h2, fun k k1 k2 => ?_⟩
    rcases h.front k k1 (fun _ => k2) with q | ⟨m, hm, z, z2⟩
    · exact q
    · have := (hb m hm z2).2
      rw [z] at this; omega
  · rcases h.front k k1 (fun z => by rw [e] at z; cases z) with q | ⟨m, hm, z, z2⟩
    · exact q
    · have := (hb m hm z2).1
      rw [e] at this; cases this
/-- The next exception has ticks, and does not lie behind the granule of the core. -/
theorem ns_take {F : Fv} {i st j : Int} {n : Nat} {ok : Bool} (hs : F.os.Pairwise (fun a b => a.1 < b.1)) (hst : st = 1 ∨ st = -1) (h : NS F i st n j ok) (hn : n < F.os.length) (ho : F.os[n].2 ≠ []) (hj : ok = true → F.os[n].1 * st ≤ j * st) (h1 : -1152921504606846976 ≤ F.os[n].1) (h2 : F.os[n].1 ≤ 1152921504606846976) : Nr F i st F.os[n].1 true := by
  refine nr_take (h.side n hn (Int.le_refl _)) (fun k k1 k2 => ?_) (by rw [gr_at hs n hn]; exact ho) h1 h2
  rcases h.front k k1 (fun e => by have := hj e; omega) with q | ⟨m, hm, z, z2⟩
  · exact q
  · rw [← z] at k2
    have := os_le hs hst hm hn k2
    omega
/-- The next exception has no ticks, and is not the granule of the core. -/
theorem ns_skip {F : Fv} {i st j : Int} {n : Nat} {ok : Bool} (hs : F.os.Pairwise (fun a b => a.1 < b.1)) (hst : st = 1 ∨ st = -1) (h : NS F i st n j ok) (hn : n < F.os.length) (ho : F.os[n].2 = []) (hj : ok = true → F.os[n].1 ≠ j) : NS F i st (n + st) j ok := by
  have hle : ∀ m : Nat, (n : Int) * st ≤ (m : Int) * st → m ≠ n → ((n : Int) + st) * st ≤ (m : Int) * st := fun m a b => by rcases hst with rfl | rfl <;> omega
  have hge : ∀ m : Nat, ((n : Int) + st) * st ≤ (m : Int) * st → (n : Int) * st ≤ (m : Int) * st := fun m a => by rcases hst with rfl | rfl <;> omega
  refine ⟨fun k k1 k2 => ?_, fun e => ?_, fun m hm q => h.side m hm (hge m q), h.low, h.high⟩
  · rcases h.front k k1 k2 with q | ⟨m, hm, z, z2⟩
    · exact .inl q
    · by_cases e : m = n
      · subst e; left; rw [← z, gr_at hs m hm]; exact ho
      · exact .inr ⟨m, hm, z, hle m z2 e⟩
  · obtain ⟨a, b, c⟩ := h.here e
    exact ⟨a, b, fun m hm z => hle m (c m hm z) (fun q => by subst q; exact hj e z)⟩
theorem ns_next {F : Fv} {i st j j2 : Int} {n : Nat} {ok2 : Bool} (hl : F.cs.length = F.cn) (hs : F.os.Pairwise (fun a b => a.1 < b.1)) (hst : st = 1 ∨ st = -1) (h : NS F i st n j true) (hn : n < F.os.length) (ho : F.os[n].2 = []) (hj : F.os[n].1 = j)
    (hw : (ok2 = true ∧ Nxt F.cs F.N j st j2 ∧ F.Rep) ∨ (ok2 = false ∧ ∀ i, cg F.cs F.P F.N i = [])) (h1 : -1152921504606846976 ≤ j2) (h2 : j2 ≤ 1152921504606846976) : NS F i st (n + st) j2 ok2 := by
  have hle : ∀ m : Nat, (n : Int) * st ≤ (m : Int) * st → m ≠ n → ((n : Int) + st) * st ≤ (m : Int) * st := fun m a b => by rcases hst with rfl | rfl <;> omega
  have hge : ∀ m : Nat, ((n : Int) + st) * st ≤ (m : Int) * st → (n : Int) * st ≤ (m : Int) * st := fun m a => by rcases hst with rfl | rfl <;> omega
  have hgt : ∀ m : Nat, ((n : Int) + st) * st ≤ (m : Int) * st → (n : Int) * st < (m : Int) * st := fun m a => by rcases hst with rfl | rfl <;> omega
  obtain ⟨a, b, c⟩ := h.here rfl
  refine ⟨fun k k1 k2 => ?_, fun e => ?_, fun m hm q => h.side m hm (hge m q), h1, h2⟩
  · by_cases q : k * st < j * st
    · rcases h.front k k1 (fun _ => q) with q | ⟨m, hm, z, z2⟩
      · exact .inl q
      · by_cases e : m = n
        · subst e; left; rw [← z, gr_at hs m hm]; exact ho
        · exact .inr ⟨m, hm, z, hle m z2 e⟩
    · by_cases e : k = j
      · left; rw [e, ← hj, gr_at hs n hn]; exact ho
      · have q2 : j * st < k * st := by rcases hst with rfl | rfl <;> omega
        by_cases x : ∃ m, ∃ hm : m < F.os.length, F.os[m].1 = k
        · obtain ⟨m, hm, z⟩ := x
          right
          refine ⟨m, hm, z, hle m ?_ (fun e => by subst e; omega)⟩
          have := os_le hs hst hn hm (by rw [z, hj]; exact q2)
          omega
        · left
          rw [gr_free (exc_of_none (fun m hm z => x ⟨m, hm, z⟩))]
          rcases hw with ⟨e1, e2, e3⟩ | ⟨e1, e2⟩
          · rw [cg_of_cset hl e3]
            exact (nxt_mid hst e2).2.1 k q2 (k2 e1)
          · exact e2 k
  · rcases hw with ⟨e1, e2, e3⟩ | ⟨e1, e2⟩
    · have q := (nxt_mid hst e2).1
      refine ⟨by omega, fun z => e2.here ((cg_of_cset hl e3 j2).1 z), fun m hm z => hle m ?_ (fun x => by subst x; have y : j = j2 := hj.symm.trans z; rw [y] at q; omega)⟩
      have := os_le hs hst hn hm (by rw [z, hj]; exact q)
      omega
    · rw [e] at e1; cases e1
theorem ns_start {F : Fv} {i st n j : Int} {ok : Bool} (hl : F.cs.length = F.cn) (hst : st = 1 ∨ st = -1) (hw : (ok = true ∧ Nxt F.cs F.N i st j ∧ F.Rep) ∨ (ok = false ∧ ∀ i, cg F.cs F.P F.N i = []))
    (hside : ∀ m (h : m < F.os.length), n * st ≤ (m : Int) * st ↔ i * st < F.os[m].1 * st) (h1 : -1152921504606846976 ≤ j) (h2 : j ≤ 1152921504606846976) : NS F i st n j ok := by
  refine ⟨fun k k1 k2 => ?_, fun e => ?_, fun m hm q => (hside m hm).1 q, h1, h2⟩
  · by_cases x : ∃ m, ∃ hm : m < F.os.length, F.os[m].1 = k
    · obtain ⟨m, hm, z⟩ := x
      exact .inr ⟨m, hm, z, (hside m hm).2 (by rw [z]; exact k1)⟩
    · left
      rw [gr_free (exc_of_none (fun m hm z => x ⟨m, hm, z⟩))]
      rcases hw with ⟨e1, e2, e3⟩ | ⟨e1, e2⟩
      · rw [cg_of_cset hl e3]
        exact (nxt_mid hst e2).2.1 k k1 (k2 e1)
      · exact e2 k
  · rcases hw with ⟨e1, e2, e3⟩ | ⟨e1, e2⟩
    · have q := (nxt_mid hst e2).1
      exact ⟨q, fun z => e2.here ((cg_of_cset hl e3 j).1 z), fun m hm z => (hside m hm).2 (by rw [z]; exact q)⟩
    · rw [e] at e1; cases e1
/-- What near has in memory. -/
structure Ne (F : Fv) (w0 w : World) (B bw b : Nat) (a st : Int) : Prop where
  wk : ∃ ps v L, Wk F w0 w B bw a st ps v L ∧ Ready F v L ∧ 0 ≤ ps ∧ ps ≤ 2 * F.cn
  box : w.heap[b]? = some (.cells F.box 25 (0, 0))
  f1 : b < B
  f2 : b ≠ bw
theorem Ne.grown {F : Fv} {w0 w w' : World} {B bw b : Nat} {a st a2 : Int} (h : Ne F w0 w B bw b a st) (hg : w.grownBy w' (some bw)) (hk : ∃ ps v L, Wk F w0 w' B bw a2 st ps v L ∧ Ready F v L ∧ 0 ≤ ps ∧ ps ≤ 2 * F.cn) : Ne F w0 w' B bw b a2 st := by
  obtain ⟨ps, v, L, k1, _⟩ := h.wk
  exact ⟨hk, (hg.block b (Nat.lt_of_lt_of_le h.f1 k1.sz) (fun e => h.f2 (by cases e; rfl))).trans h.box, h.f1, h.f2⟩
theorem Ne.keep {F : Fv} {w0 w w' : World} {B bw b : Nat} {a st : Int} (h : Ne F w0 w B bw b a st) (k : Below w.heap.size w w') : Ne F w0 w' B bw b a st := by
  obtain ⟨ps, v, L, k1, k2⟩ := h.wk
  exact h.grown ((grown_of_below k).but _) ⟨ps, v, L, k1.keep k, k2⟩
theorem Ne.boxc {F : Fv} {w0 w : World} {B bw b : Nat} {a st : Int} (h : Ne F w0 w B bw b a st) (k : Nat) : w.cell? ⟨b, k, none⟩ = (F.box)[k]? := by
  unfold World.cell?; rw [h.box]; rfl
theorem Ne.at0 {F : Fv} {w0 w : World} {B bw b : Nat} {a st : Int} (h : Ne F w0 w B bw b a st) : F.At w := by
  obtain ⟨ps, v, L, k1, _⟩ := h.wk
  exact k1.at0
theorem Ne.bw' {F : Fv} {w0 w : World} {B bw b : Nat} {a st : Int} (h : Ne F w0 w B bw b a st) : Below w0.heap.size w0 w := by
  obtain ⟨ps, v, L, k1, _⟩ := h.wk
  exact k1.bw
theorem Ne.next {F : Fv} {w0 w : World} {B bw b : Nat} {a st : Int} (hst : st = 1 ∨ st = -1) (h : Ne F w0 w B bw b a st) (hc : F.cn ≤ 1000000) (ha1 : -2305843009213693952 ≤ a) (ha2 : a ≤ 2305843009213693952) : Calls Try.prog 85 #[.pointer (some ⟨bw, 0, none⟩)] w fun e w' => ∃ a2, NxOut F a st e a2 ∧ Hid (Ne F w0 w' B bw b a2 st) := by
  obtain ⟨ps, v, L, k1, k2, k3, k4⟩ := h.wk
  refine (next_any F w0 w B bw a st ps v L hst k1 k2 hc ha1 ha2 k3 k4).mono ?_
  rintro e w' ⟨a2, ps2, v2, L2, q1, q2, q3, q4, q5, q6⟩
  exact ⟨a2, q3, Lib.hid (h.grown q6 ⟨ps2, v2, L2, q1, q2, q4, q5⟩)⟩
/-- What near tells. -/
def NearOut (F : Fv) (i st : Int) (e : Ending) : Prop := ∃ j ok, e = .returned (.tuple #[.int .i64 j, .bool ok]) ∧ Nr F i st j ok
def NearRel (F : Fv) (i st lo hi : Int) (w0 : World) (B bw b : Nat) (nn jj oo : Value) (wr : World) : Prop := ∃ (n j : Int) (ok : Bool), nn = .int .i64 n ∧ jj = .int .i64 j ∧ oo = .bool ok ∧ lo ≤ n ∧ n ≤ hi ∧ Hid (NS F i st n j ok) ∧ Hid (∃ a, (ok = true → a = j) ∧ Ne F w0 wr B bw b a st)
end Go.Proofs.Ytmjapbjjfhmohaa
