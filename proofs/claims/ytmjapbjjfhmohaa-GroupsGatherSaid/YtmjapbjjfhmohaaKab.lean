/- Q1, X1 in one. -/
import Derived.Test.YtmjapbjjfhmohaaKz
import Derived.Test.YtmjapbjjfhmohaaKaa
import Derived.Test.YtmjapbjjfhmohaaKo
import Derived.Test.YtmjapbjjfhmohaaKu
namespace Go.Proofs.Ytmjapbjjfhmohaa
set_option linter.unusedVariables false
set_option linter.unusedSimpArgs false
open Go.ChangeShapes Go.WideShapes Go.ChangeAt Go.RowKit Go.Shelf

set_option maxHeartbeats 1000000 in
theorem behind_low (F : Fv) (i : Int) (w : World) (hF : F.At w) (ok : F.Ok) (hi : -1099511627777 ≤ i ∧ i ≤ 1099511627776) :
    Calls Try.prog 46 #[F.v, .int .i64 i] w fun e w' => BeOut F i 1 e ∧ Hid (Below w.heap.size w w') := by
  obtain ⟨hi1, hi2⟩ := hi
  have HNR := Lib.hid (fun W h => near_up F i W h ok (by omega) (by omega))
  clear ok
  obtain ⟨P, N, co, cn, cc, oo, on, oc, cs, os⟩ := F
  have LC : Hid (cs.length = cn) := Lib.hid hF.core.len
  have LO : Hid (os.length = on) := Lib.hid hF.odd.len
  have hmc : cn ≤ 9223372036854775807 := Nat.le_trans hF.core.le hF.core.top
  have hmo : on ≤ 9223372036854775807 := Nat.le_trans hF.odd.le hF.odd.top
  obtain ⟨b, hb⟩ : ∃ b, w.heap.size = b := ⟨_, rfl⟩
  obtain ⟨wb, hwb⟩ : ∃ wb, w.alloc (.cells #[.int .i64 P, .int .i64 N, .slice co cn cc, .slice oo on oc] 25) = wb := ⟨_, rfl⟩
  have HBB : Hid (Fbox ⟨P, N, co, cn, cc, oo, on, oc, cs, os⟩ w wb b) := Lib.hid (by rw [← hwb, ← hb]; exact fbox_new hF)
  clear hF
  show Calls Try.prog 46 #[.agg #[.int .i64 P, .int .i64 N, .slice co cn cc, .slice oo on oc], .int .i64 i] w _
  go_enter Try.func46, Try.ntmps46
  go_upto_region 1 with fail
  clear hwb hb
  have e0 : wb.cell? ⟨b, 0, none⟩ = some (.int .i64 P) := HBB.out.c0
  have e1 : wb.cell? ⟨b, 1, none⟩ = some (.int .i64 N) := HBB.out.c1
  have e2 : wb.cell? ⟨b, 2, none⟩ = some (.slice co cn cc) := HBB.out.c2
  have e3 : wb.cell? ⟨b, 3, none⟩ = some (.slice oo on oc) := HBB.out.c3
  have HNR : Hid (∀ W, Fv.At ⟨P, N, co, cn, cc, oo, on, oc, cs, os⟩ W → Calls Try.prog 70 #[.agg #[.int .i64 P, .int .i64 N, .slice co cn cc, .slice oo on oc], .int .i64 i, .int .i64 1] W fun e w' => NearOut ⟨P, N, co, cn, cc, oo, on, oc, cs, os⟩ i 1 e ∧ Hid (Below W.heap.size W w')) := HNR
  by_cases h1 : 1099511627776 ≤ i
  · go_wp2
    go_returns
    exact ⟨⟨0, false, rfl, (fun z => by cases z), fun _ k k1 k2 => by have := k2.1; have := k2.2; omega⟩, Lib.hid HBB.out.bw⟩
  · have hmm : max i (-1099511627777) = i := by omega
    go_wp2_with fail
    (with_reducible refine (HNR.out _ HBB.out.at_).mono ?_)
    rintro e w2 ⟨⟨j, ok, rfl, hn⟩, q⟩
    have HN := Lib.hid hn
    have HBW := Lib.hid (HBB.out.bw.trans (q.out.mono HBB.out.bw.size))
    have hj1 := hn.low
    have hj2 := hn.high
    clear hn q
    cases ok
    · go_wp2
      go_returns
      exact ⟨⟨0, false, rfl, (fun z => by cases z), fun _ k k1 _ => HN.out.no rfl k k1⟩, HBW⟩
    · by_cases h2 : 1099511627776 < j
      · go_wp2
        go_returns
        exact ⟨⟨0, false, rfl, (fun z => by cases z), fun _ k k1 k2 => (HN.out.yes rfl).2.2 k k1 (by have := k2.1; have := k2.2; omega)⟩, HBW⟩
      · have HJ : Hid (InR j) := Lib.hid (by have := (HN.out.yes rfl).1; exact ⟨by omega, by omega⟩)
        go_wp2
        go_returns
        exact ⟨⟨j, true, rfl, (fun _ => ⟨HN.out, HJ.out⟩), fun z => by cases z⟩, HBW⟩
/-- The closure that tells a form's sets. -/
theorem tell47_any (F : Fv) (j : Int) (bf : Nat) (w : World) (hF : F.At w) (ok : F.Ok) (hb : w.heap[bf]? = some (.cells F.box 25 (0, 0))) :
    Calls Try.prog 47 #[.int .i64 j, .pointer (some ⟨bf, 0, none⟩)] w fun e w' => ∃ v k, e = .returned (.tuple #[v, .int .i64 k]) ∧ Hid (Below w.heap.size w w') ∧ Hid (TO (gr F) (fun j => Told j (gr F j)) w.heap.size j (v, k) w') := by
  have HR := Lib.hid (get_any F j w hF ok)
  obtain ⟨P, N, co, cn, cc, oo, on, oc, cs, os⟩ := F
  obtain ⟨S, hS⟩ : ∃ z, gr ⟨P, N, co, cn, cc, oo, on, oc, cs, os⟩ = z := ⟨_, rfl⟩
  rw [hS] at HR ⊢
  have c0 := cell_block hb 0
  have c1 := cell_block hb 1
  have c2 := cell_block hb 2
  have c3 := cell_block hb 3
  have HR : Hid (Calls Try.prog 13 #[.agg #[.int .i64 P, .int .i64 N, .slice co cn cc, .slice oo on oc], .int .i64 j] w fun e w' => ∃ (v : Value) (k : Int), e = .returned (.tuple #[v, .int .i64 k]) ∧ Below w.heap.size w w' ∧ Hid ((Told j (S j) ∧ k = 0 ∧ w'.ownsRow w.heap.size 50 2 v (S j).length (spCells (S j))) ∨ (¬ Told j (S j) ∧ k = 20 ∧ v = .slice none 0 0))) := HR
  clear hF ok hb hS
  go_enter Try.func47, Try.ntmps47
  go_wp2_with fail
  (with_reducible refine HR.out.mono ?_)
  rintro e w1 ⟨v, k, rfl, q, hv⟩
  have HQ := Lib.hid q
  clear q c0 c1 c2 c3
  go_wp2
  go_returns
  exact ⟨v, k, rfl, HQ, hv⟩
/-- The indexes from m to n that have ticks. -/
structure SbL (F : Fv) (m n : Int) (L : List Int) : Prop where
  inc : L.Pairwise (· < ·)
  mem : ∀ k, k ∈ L ↔ m ≤ k ∧ k ≤ n ∧ gr F k ≠ []
theorem sb_ex (F : Fv) (m n : Int) : ∃ L, SbL F m n L ∧ (L.length : Int) ≤ max 0 (n + 1 - m) := by
  classical
  refine ⟨((List.range (n + 1 - m).toNat).map (fun j : Nat => m + (j : Int))).filter (fun k => decide (gr F k ≠ [])), ⟨?_, fun k => ?_⟩, ?_⟩
  · refine List.Pairwise.filter _ ?_
    rw [List.pairwise_map]
    exact (List.pairwise_lt_range).imp (fun h => by omega)
  · rw [List.mem_filter, List.mem_map]
    constructor
    · rintro ⟨⟨j, hj, rfl⟩, h⟩
      rw [List.mem_range] at hj
      exact ⟨by omega, by omega, of_decide_eq_true h⟩
    · rintro ⟨h1, h2, h3⟩
      exact ⟨⟨(k - m).toNat, List.mem_range.2 (by omega), by omega⟩, decide_eq_true h3⟩
  · have h := List.length_filter_le (fun k => decide (gr F k ≠ [])) ((List.range (n + 1 - m).toNat).map (fun j : Nat => m + (j : Int)))
    rw [List.length_map, List.length_range] at h
    omega
theorem inc_ix {L : List Int} (h : L.Pairwise (· < ·)) {i j : Nat} (hi : i < L.length) (hj : j < L.length) (q : i < j) : L[i] < L[j] := List.pairwise_iff_getElem.1 h i j hi hj q
/-- What Behind has told when k indexes are taken. -/
def SbN (L : List Int) (n : Int) (k : Nat) (i : Int) (ok : Bool) : Prop := (ok = true → InR i ∧ (i ≤ n → ∃ h : k < L.length, L[k] = i) ∧ (n < i → k = L.length)) ∧ (ok = false → k = L.length)
theorem sb_next {F : Fv} {m n p j : Int} {L : List Int} {k : Nat} {ok : Bool} (s : SbL F m n L) (hk : k ≤ L.length) (im : InR m) (jn : InR n) (hp : m - 1 ≤ p) (h1 : ∀ i (h : i < L.length), i < k → L[i] ≤ p) (h2 : ∀ i (h : i < L.length), k ≤ i → p < L[i])
    (b1 : ok = true → Nr F p 1 j true ∧ InR j) (b2 : ok = false → ∀ x, p * 1 < x * 1 → InR x → gr F x = []) : SbN L n k j ok := by
  have at_k : ∀ h : k < L.length, m ≤ L[k] ∧ L[k] ≤ n ∧ gr F L[k] ≠ [] := fun h => (s.mem _).1 (List.getElem_mem h)
  refine ⟨fun e => ?_, fun e => ?_⟩
  · obtain ⟨b, c⟩ := b1 e
    obtain ⟨d1, d2, d3⟩ := b.yes rfl
    refine ⟨c, fun le => ?_, fun lt => ?_⟩
    · have hj : j ∈ L := (s.mem j).2 ⟨by omega, le, d2⟩
      obtain ⟨q, hq, rfl⟩ := List.getElem_of_mem hj
      have q1 : ¬ q < k := fun z => by have := h1 q hq z; omega
      by_cases q2 : k < q
      · have hk2 : k < L.length := by omega
        have a := h2 k hk2 (Nat.le_refl _)
        have b := inc_ix s.inc hk2 hq q2
        exact absurd (d3 _ (by omega) (by omega)) (at_k hk2).2.2
      · obtain rfl : q = k := by omega
        exact ⟨hq, rfl⟩
    · by_cases q : k < L.length
      · have a := h2 k q (Nat.le_refl _)
        have b := at_k q
        exact absurd (d3 _ (by omega) (by omega)) b.2.2
      · omega
  · by_cases q : k < L.length
    · have a := h2 k q (Nat.le_refl _)
      have b := at_k q
      exact absurd (b2 e _ (by omega) ⟨by have := im.1; omega, by have := jn.2; omega⟩) b.2.2
    · omega
theorem sb_first {F : Fv} {m n j : Int} {L : List Int} {ok : Bool} (s : SbL F m n L) (im : InR m) (jn : InR n) (b1 : ok = true → Nr F (m - 1) 1 j true ∧ InR j) (b2 : ok = false → ∀ x, (m - 1) * 1 < x * 1 → InR x → gr F x = []) : SbN L n 0 j ok :=
  sb_next s (Nat.zero_le _) im jn (Int.le_refl _) (fun i h z => absurd z (Nat.not_lt_zero i)) (fun i h _ => by have := ((s.mem _).1 (List.getElem_mem h)).1; omega) b1 b2
theorem sb_more {F : Fv} {m n j : Int} {L : List Int} {k : Nat} {ok : Bool} (s : SbL F m n L) (im : InR m) (jn : InR n) (hk : k < L.length) (b1 : ok = true → Nr F L[k] 1 j true ∧ InR j) (b2 : ok = false → ∀ x, L[k] * 1 < x * 1 → InR x → gr F x = []) : SbN L n (k + 1) j ok :=
  sb_next s hk im jn (by have := ((s.mem _).1 (List.getElem_mem hk)).1; omega) (fun i h z => by
    by_cases q : i = k
    · subst q; exact Int.le_refl _
    · exact Int.le_of_lt (inc_ix s.inc h hk (by omega))) (fun i h z => inc_ix s.inc hk h (by omega)) b1 b2
/-- The exceptions that Subset makes. -/
def sbStep (S : Int → List Sp) (acc : List Gr) (i : Int) : List Gr := acc ++ [(i, colF (60000 - (lens (tks acc) : Int)) (many S i 1))]
def sbOs (S : Int → List Sp) (L : List Int) : List Gr := L.foldl (sbStep S) []
theorem sbOs_snoc (S : Int → List Sp) (L : List Int) (i : Int) : sbOs S (L ++ [i]) = sbStep S (sbOs S L) i := by simp [sbOs]
theorem sb_len (S : Int → List Sp) : ∀ (L : List Int) (acc : List Gr), (L.foldl (sbStep S) acc).length = acc.length + L.length
  | [], acc => by simp
  | i :: r, acc => by
    rw [List.foldl_cons, sb_len S r]
    simp [sbStep]; omega
theorem sbOs_len (S : Int → List Sp) (L : List Int) : (sbOs S L).length = L.length := by
  have := sb_len S L []
  rw [List.length_nil, Nat.zero_add] at this
  exact this
def sbBare (L : List Int) : List Gr := L.map (fun i => (i, []))
def sbMid (S : Int → List Sp) (L : List Int) (k : Nat) : List Gr := sbOs S (L.take k) ++ sbBare (L.drop k)
theorem sbMid_zero (S : Int → List Sp) (L : List Int) : sbMid S L 0 = sbBare L := by simp [sbMid, sbOs]
theorem sbMid_all (S : Int → List Sp) (L : List Int) : sbMid S L L.length = sbOs S L := by simp [sbMid, sbBare]
theorem sbMid_len (S : Int → List Sp) (L : List Int) (k : Nat) : (sbMid S L k).length = L.length := by
  simp only [sbMid, sbBare, List.length_append, sbOs_len, List.length_take, List.length_map, List.length_drop]; omega
theorem sbMid_at (S : Int → List Sp) {L : List Int} {k : Nat} (h : k < L.length) (h' : k < (sbMid S L k).length) : (sbMid S L k)[k] = (L[k], []) := by
  have e : (sbOs S (L.take k)).length = k := by rw [sbOs_len, List.length_take]; omega
  simp only [sbMid]
  rw [List.getElem_append_right (by omega)]
  simp [sbBare, e]
theorem sbMid_step (S : Int → List Sp) {L : List Int} {k : Nat} (h : k < L.length) : sbMid S L (k + 1) = (sbMid S L k).set k (L[k], colF (60000 - (lens (tks (sbOs S (L.take k))) : Int)) (many S L[k] 1)) := by
  have e : (sbOs S (L.take k)).length = k := by rw [sbOs_len, List.length_take]; omega
  have e2 : L.drop k = L[k] :: L.drop (k + 1) := List.drop_eq_getElem_cons h
  unfold sbMid
  rw [List.take_succ_eq_append_getElem h, sbOs_snoc, show sbBare (L.drop k) = (L[k], []) :: sbBare (L.drop (k + 1)) by rw [e2]; rfl, List.set_append_right _ _ (by omega), e, Nat.sub_self]
  simp [sbStep]
theorem lens_snocG (acc : List Gr) (z : Gr) : lens (tks (acc ++ [z])) = lens (tks acc) + z.2.length := by
  show lens (List.map _ _) = lens (List.map _ _) + _
  rw [List.map_append, List.map_cons, List.map_nil, lens_snoc]
theorem sb_each {S : Int → List Sp} {M : Nat} (h : ∀ j, (S j).length ≤ M) : ∀ (L : List Int) (acc : List Gr), (∀ o ∈ acc, o.2.length ≤ 1 * M) → ∀ o ∈ L.foldl (sbStep S) acc, o.2.length ≤ 1 * M
  | [], acc, ha => ha
  | i :: r, acc, ha => by
    rw [List.foldl_cons]
    refine sb_each h r _ (fun z hz => ?_)
    unfold sbStep at hz
    rcases List.mem_append.1 hz with hz | hz
    · exact ha z hz
    · rw [List.mem_singleton.1 hz]
      exact many_lens h _ 1 _
/-- A set, stored with its index. -/
theorem od_set {W : World} {B n g c k : Nat} {os : List Gr} {l : List Sp} {u : Value} (h : OdOwn W B (.slice (some ⟨g, 0, none⟩) n c) n os) (hk : k < os.length) (d : W.ownsRow B 50 2 u l.length (spCells l)) : OdOwn (W.setCell ⟨g, k * 2 + 1, none⟩ u) B (.slice (some ⟨g, 0, none⟩) n c) n (os.set k (os[k].1, l)) := by
  obtain ⟨xs, a, b⟩ := h.row
  have hl := h.len
  have hx : xs.length = n * 2 := a.1
  have mv : ∀ {v : Value} {m : Nat} {ys : List Value}, W.ownsRow B 50 2 v m ys → (W.setCell ⟨g, k * 2 + 1, none⟩ u).ownsRow B 50 2 v m ys := fun h => own_off h (grown_cell W ⟨g, k * 2 + 1, none⟩ u) (fun y e => by
    cases e
    obtain ⟨cur, t⟩ := own_typed a rfl
    exact .inr ⟨cur, 52, t, by decide⟩)
  refine ⟨by rw [List.length_set]; exact hl, xs.set (k * 2 + 1) u, (a.stored (k * 2 + 1) u).1, fun i hi => ?_⟩
  rw [List.length_set] at hi
  obtain ⟨h1, ⟨y, h2, h3⟩, h4⟩ := b i hi
  by_cases q : i = k
  · subst q
    rw [List.getElem_set_self, List.getElem?_set_ne (by omega), List.getElem?_set_self (by omega)]
    exact ⟨h1, ⟨u, rfl, mv d⟩, h4⟩
  · rw [List.getElem_set_ne (by omega), List.getElem?_set_ne (by omega), List.getElem?_set_ne (by omega)]
    exact ⟨h1, ⟨y, h2, mv h3⟩, h4⟩
def sbF (F : Fv) (L : List Int) : Fv := ⟨0, 0, none, 0, 0, none, L.length, 0, [], sbOs (gr F) L⟩
/-- What Subset answers. -/
def SbOut (F : Fv) (L : List Int) (n₀ : Nat) (e : Ending) (w' : World) : Prop :=
  (6000 < L.length ∧ e = .returned (.tuple #[.agg #[.int .i64 0, .int .i64 0, .slice none 0 0, .slice none 0 0], .int .i64 3])) ∨
  (L.length ≤ 6000 ∧ (¬ ∀ k ∈ L, Told k (gr F k)) ∧ e = .returned (.tuple #[.agg #[.int .i64 0, .int .i64 0, .slice none 0 0, .slice none 0 0], .int .i64 20])) ∨
  (L.length ≤ 6000 ∧ (∀ k ∈ L, Told k (gr F k)) ∧ ((60000 < (sbF F L).size ∧ e = .returned (.tuple #[.agg #[.int .i64 0, .int .i64 0, .slice none 0 0, .slice none 0 0], .int .i64 3])) ∨ ((sbF F L).size ≤ 60000 ∧ ¬ (sbF F L).Rt ∧ e = .returned (.tuple #[.agg #[.int .i64 0, .int .i64 0, .slice none 0 0, .slice none 0 0], .int .i64 20])) ∨
    ((sbF F L).size ≤ 60000 ∧ ∃ K G : Fv, (K.P = 0 ∧ K.N = 0 ∧ K.cn = 0 ∧ K.on = L.length ∧ K.cs = [] ∧ K.os = sbOs (gr F) L) ∧ K.Rt ∧ IsCan K G ∧ G.Own w' n₀ ∧ e = .returned (.tuple #[.agg #[.int .i64 G.P, .int .i64 G.N, .slice G.co G.cn G.cc, .slice G.oo G.on G.oc], .int .i64 0]))))

abbrev daysF (co : Option Addr) (cc : Nat) : Fv := ⟨1, 1, co, 1, cc, none, 0, 0, [[(0, 0)]], []⟩
abbrev wideF (co : Option Addr) (cc : Nat) : Fv := ⟨549755813888, 1, co, 1, cc, none, 0, 0, [[(0, 0)]], []⟩
abbrev oneF (P : Int) (l : List Sp) (os : List Gr) (co : Option Addr) (cc : Nat) (oo : Option Addr) (oc : Nat) : Fv := ⟨P, 1, co, 1, cc, oo, os.length, oc, [l], os⟩
theorem turn_one {l : List Sp} (P : Int) (h : l ≠ []) : IsTurn [l] P 1 1 := .inr ⟨⟨_, List.mem_cons_self, h⟩, turn_all (cs := [l]) ⟨by decide, rfl⟩, fun e h => h.pos⟩
theorem can_one {P : Int} {l : List Sp} {os : List Gr} (h : l ≠ []) (ho : os.filter (fun o => !(decide (o.2 = cg [l] P 1 o.1))) = os) (co : Option Addr) (cc : Nat) (oo : Option Addr) (oc : Nat) (ko : Option Addr) (kc : Nat) (lo : Option Addr) (lc : Nat) : IsCan (oneF P l os co cc oo oc) (oneF P l os ko kc lo lc) :=
  ⟨turn_one P h, rfl, (show P = canP P 1 1 by simp [canP]), rfl, ho.symm⟩
theorem rt_one {P : Int} {l : List Sp} (hP : 1 ≤ P) (hQ : P ≤ 1099511627776) (hg : Good l) (hr : RisOk [l] P) (co : Option Addr) (cc : Nat) (oo : Option Addr) (oc : Nat) : (oneF P l [] co cc oo oc).Rt := by
  refine ⟨.inr ⟨(show (1 : Int) ≠ 0 by decide), rfl, hP, hQ⟩, fun m hm => ?_, oddOk_nil, hr, fun i => ⟨fun h => ?_, fun h => ?_⟩⟩
  · rw [List.mem_singleton.1 hm]; exact hg
  · exact absurd h (Nat.not_lt_zero _)
  · exact absurd h (Nat.not_lt_zero _)
theorem ris_one {P : Int} {x y : Int} (h : y - x < P) : RisOk [[(x, y)]] P := ⟨by simp, fun a ha b hb s hs u hu => by simp at ha hb; subst ha hb; simp at hs hu; subst hs hu; simp; omega⟩
theorem rt_days (co : Option Addr) (cc : Nat) : (daysF co cc).Rt := rt_one (by decide) (by decide) (by simp [Good, Rt]) (ris_one (by decide)) co cc none 0
theorem rt_wide (co : Option Addr) (cc : Nat) : (wideF co cc).Rt := rt_one (by decide) (by decide) (by simp [Good, Rt]) (ris_one (by decide)) co cc none 0
theorem len1 {l : List Sp} {M : Nat} (h : l.length ≤ M) : ∀ x ∈ [l], x.length ≤ M := fun x hx => by rw [List.mem_singleton.1 hx]; exact h
theorem pa_one {F : Fv} {m : Nat} (h1 : F.N = 1) (h2 : F.cn = 1) (h3 : 1 ≤ F.P) (h4 : F.P ≤ 1099511627776) (hm : 0 < m) : Pa F m 1 m := .inr ⟨by rw [h1, h2]; rfl, by omega, by rw [h2]; simp, by rw [h2], by omega, by omega, hm, Nat.le_refl _, h3, h4⟩
theorem pa_days (co : Option Addr) (cc : Nat) : Pa (daysF co cc) 7 1 7 := pa_one rfl rfl (show (1 : Int) ≤ 1 by decide) (show (1 : Int) ≤ 1099511627776 by decide) (by decide)
theorem pa_wide (co : Option Addr) (cc : Nat) : Pa (wideF co cc) 4 1 4 := pa_one rfl rfl (show (1 : Int) ≤ 549755813888 by decide) (show (549755813888 : Int) ≤ 1099511627776 by decide) (by decide)
theorem pa_weeks (os : List Gr) (co : Option Addr) (cc : Nat) (oo : Option Addr) (oc : Nat) : Pa (weeksF 7 os co cc oo oc) 2 1 2 := pa_one rfl rfl (show (1 : Int) ≤ 7 by decide) (show (7 : Int) ≤ 1099511627776 by decide) (by decide)
theorem fit1 {x y : Int} (h1 : -1099511627776 ≤ x) (h2 : x ≤ 1099511627776) (h3 : -1099511627776 ≤ y) (h4 : y ≤ 1099511627776) : Fit [(x, y)] := fun s hs => by rw [List.mem_singleton.1 hs]; exact ⟨⟨h1, h2⟩, h3, h4⟩
theorem cg_days (i : Int) : cg [[(0, 0)]] 1 1 i = [(i, i)] := by
  have h : Full [[((0 : Int), (0 : Int))]] 1 := ⟨by decide, rfl⟩
  rw [cg_in h]
  unfold cset
  simp [moved]
theorem gr_days (co : Option Addr) (cc : Nat) (i : Int) : gr (daysF co cc) i = [(i, i)] := by
  rw [gr_free rfl]; exact cg_days i
/-- Days by sevens. -/
theorem week_ok (co : Option Addr) (cc : Nat) : GrpOK (daysF co cc) 7 1 7 ∧ gpF (daysF co cc) 7 1 7 = oneF 7 [(0, 6)] [] none 0 none 0 := by
  refine ⟨⟨⟨(show 7 * lens [[((0 : Int), (0 : Int))]] ≤ 60000 by decide), (show (1 : Int) * ((7 : Nat) : Int) ≤ 1099511627776 by decide), fun i hi j hj => ?_⟩, fun o h => by cases h⟩, ?_⟩
  · rw [cg_days]
    exact fit1 (by omega) (by omega) (by omega) (by omega)
  · have e : grpCs [[((0 : Int), (0 : Int))]] 1 1 7 1 = [[(0, 6)]] := by decide
    show (⟨1 * 7, ((1 : Nat) : Int), none, 1, 0, none, 0, 0, grpCs [[((0 : Int), (0 : Int))]] 1 1 7 1, []⟩ : Fv) = _
    rw [e]; rfl
theorem rt_seven : (oneF 7 [(0, 6)] [] none 0 none 0).Rt := rt_one (by decide) (by decide) (by simp [Good, Rt]) (ris_one (by decide)) none 0 none 0
/-- Weeks, one of them with its own ticks, by twos. -/
theorem two_ok (co : Option Addr) (cc : Nat) (oo : Option Addr) (oc : Nat) : GrpOK (weeksF 7 [(1, [(8, 11)])] co cc oo oc) 2 1 2 ∧ gpF (weeksF 7 [(1, [(8, 11)])] co cc oo oc) 2 1 2 = oneF 14 [(0, 4), (7, 11)] [(0, [(0, 4), (8, 11)])] none 0 none 0 := by
  have s0 := gr_s0 co cc oo oc
  have s1 := gr_s1 co cc oo oc
  refine ⟨⟨⟨(show 2 * lens [[((0 : Int), (4 : Int))]] ≤ 60000 by decide), (show (7 : Int) * ((2 : Nat) : Int) ≤ 1099511627776 by decide), fun i hi j hj => ?_⟩, fun o h j hj => ?_⟩, ?_⟩
  · have hi0 : i = 0 := by omega
    subst hi0
    have : j = 0 ∨ j = 1 := by omega
    rcases this with rfl | rfl
    · show Fit (cg [[(0, 4)]] 7 1 0)
      rw [show cg [[((0 : Int), (4 : Int))]] 7 1 0 = [(0, 4)] by decide]; exact fit1 (by decide) (by decide) (by decide) (by decide)
    · show Fit (cg [[(0, 4)]] 7 1 1)
      rw [show cg [[((0 : Int), (4 : Int))]] 7 1 1 = [(7, 11)] by decide]; exact fit1 (by decide) (by decide) (by decide) (by decide)
  · rw [List.mem_singleton.1 h]
    have : j = 0 ∨ j = 1 := by omega
    rcases this with rfl | rfl
    · show Told 0 (gr (weeksF 7 [(1, [(8, 11)])] co cc oo oc) 0)
      rw [s0]; exact ⟨⟨by decide, by decide⟩, fit1 (by decide) (by decide) (by decide) (by decide)⟩
    · show Told 1 (gr (weeksF 7 [(1, [(8, 11)])] co cc oo oc) 1)
      rw [s1]; exact ⟨⟨by decide, by decide⟩, fit1 (by decide) (by decide) (by decide) (by decide)⟩
  · have e : grpCs [[((0 : Int), (4 : Int))]] 7 1 2 1 = [[(0, 4), (7, 11)]] := by decide
    have e2 : gpOs (gr (weeksF 7 [(1, [(8, 11)])] co cc oo oc)) 2 [(1, [(8, 11)])] = [(0, [(0, 4), (8, 11)])] := by
      obtain ⟨S, hS⟩ : ∃ z, gr (weeksF 7 [(1, [(8, 11)])] co cc oo oc) = z := ⟨_, rfl⟩
      rw [hS] at s0 s1 ⊢
      show [] ++ [((1 : Int).fdiv 2, colF (60000 - (lens (tks ([] : List Gr)) : Int)) [S (0 + ((0 : Nat) : Int)), S (0 + ((1 : Nat) : Int))])] = _
      rw [show (0 : Int) + ((0 : Nat) : Int) = 0 from rfl, show (0 : Int) + ((1 : Nat) : Int) = 1 from rfl, s0, s1]
      decide
    show (⟨7 * 2, ((1 : Nat) : Int), none, 1, 0, none, (gpOs (gr (weeksF 7 [(1, [(8, 11)])] co cc oo oc)) 2 [(1, [(8, 11)])]).length, 0, grpCs [[((0 : Int), (4 : Int))]] 7 1 2 1, gpOs (gr (weeksF 7 [(1, [(8, 11)])] co cc oo oc)) 2 [(1, [(8, 11)])]⟩ : Fv) = _
    rw [e, e2]; rfl
abbrev twoOs : List Gr := [(0, [(0, 4), (8, 11)])]
theorem gr_two (i : Int) (h : i ≠ 0) : gr (oneF 14 [(0, 4), (7, 11)] twoOs none 0 none 0) i = moved [(0, 4), (7, 11)] (14 * i) := by
  rw [gr_free (exc_none.2 (fun o ho => by rw [List.mem_singleton.1 ho]; exact fun e => h e.symm))]
  show cg [[(0, 4), (7, 11)]] 14 1 i = _
  have h : Full [[((0 : Int), (4 : Int)), (7, 11)]] 1 := ⟨by decide, rfl⟩
  rw [cg_in h]
  unfold cset
  simp
theorem rt_two : (oneF 14 [(0, 4), (7, 11)] twoOs none 0 none 0).Rt := by
  have g2 : Good [((0 : Int), (4 : Int)), (8, 11)] := by simp [Good, Rt]
  refine ⟨.inr ⟨(show (1 : Int) ≠ 0 by decide), rfl, (show (1 : Int) ≤ 14 by decide), (show (14 : Int) ≤ 1099511627776 by decide)⟩, fun l hl => ?_, ⟨fun o ho => by rw [List.mem_singleton.1 ho]; exact ⟨g2, by decide, by decide⟩, by simp⟩, ⟨by simp, fun a ha b hb s hs u hu => by
    simp at ha hb
    subst ha hb
    simp at hs hu
    rcases hs with rfl | rfl <;> rcases hu with rfl | rfl <;> simp⟩, fun i => ⟨fun h j hj => ?_, fun h j hj => ?_⟩⟩
  · simp at hl; subst hl; simp [Good, Rt]
  · have hi : i = 0 := by simpa using h
    subst hi
    obtain ⟨a, b, c⟩ := hj.yes rfl
    simp at a
    have h0 := gr_two (-1) (by decide)
    obtain rfl : j = -1 := by
      by_cases e : j = -1
      · exact e
      · have := c (-1) (by simp) (by omega)
        rw [h0] at this; cases this
    rw [h0]
    exact ⟨fit_good (by simp [Good, Rt, moved]), fun _ => (show decide (hullB (moved [(0, 4), (7, 11)] (14 * (-1))) < hullA [(0, 4), (8, 11)]) = true by decide)⟩
  · have hi : i = 0 := by simpa using h
    subst hi
    obtain ⟨a, b, c⟩ := hj.yes rfl
    simp at a
    have h2 := gr_two 1 (by decide)
    obtain rfl : j = 1 := by
      by_cases e : j = 1
      · exact e
      · have := c 1 (by simp) (by omega)
        rw [h2] at this; cases this
    rw [h2]
    exact ⟨fit_good (by simp [Good, Rt, moved]), fun _ => (show decide (hullB [(0, 4), (8, 11)] < hullA (moved [(0, 4), (7, 11)] (14 * 1))) = true by decide)⟩
theorem can_two (ko : Option Addr) (kc : Nat) (lo : Option Addr) (lc : Nat) : IsCan (oneF 14 [(0, 4), (7, 11)] twoOs none 0 none 0) (oneF 14 [(0, 4), (7, 11)] twoOs ko kc lo lc) := can_one (by simp) (by decide) none 0 none 0 ko kc lo lc
/-- Too wide. -/
theorem wide_bad (co : Option Addr) (cc : Nat) : ¬ GrpOK (wideF co cc) 4 1 4 := fun h => by
  have := h.1.2.1
  have e : (549755813888 : Int) * ((4 : Nat) : Int) ≤ 1099511627776 := this
  omega
/-- Days from 2 to 4. -/
theorem sb_days (co : Option Addr) (cc : Nat) : SbL (daysF co cc) 2 4 [2, 3, 4] := ⟨by simp, fun k => by
  rw [gr_days]
  simp
  omega⟩
abbrev someOs : List Gr := [(2, [(2, 2)]), (3, [(3, 3)]), (4, [(4, 4)])]
abbrev someF (oo : Option Addr) (oc : Nat) : Fv := ⟨0, 0, none, 0, 0, oo, 3, oc, [], someOs⟩
theorem some_f (co : Option Addr) (cc : Nat) : sbF (daysF co cc) [2, 3, 4] = someF none 0 := by
  have e : sbOs (gr (daysF co cc)) [2, 3, 4] = someOs := by
    have h2 := gr_days co cc 2
    have h3 := gr_days co cc 3
    have h4 := gr_days co cc 4
    obtain ⟨S, hS⟩ : ∃ z, gr (daysF co cc) = z := ⟨_, rfl⟩
    rw [hS] at h2 h3 h4 ⊢
    have e2 : many S 2 1 = [[(2, 2)]] := by show [S (2 + ((0 : Nat) : Int))] = _; rw [show (2 : Int) + ((0 : Nat) : Int) = 2 from rfl, h2]
    have e3 : many S 3 1 = [[(3, 3)]] := by show [S (3 + ((0 : Nat) : Int))] = _; rw [show (3 : Int) + ((0 : Nat) : Int) = 3 from rfl, h3]
    have e4 : many S 4 1 = [[(4, 4)]] := by show [S (4 + ((0 : Nat) : Int))] = _; rw [show (4 : Int) + ((0 : Nat) : Int) = 4 from rfl, h4]
    simp only [sbOs, List.foldl_cons, List.foldl_nil, sbStep, e2, e3, e4]
    decide
  show (⟨0, 0, none, 0, 0, none, 3, 0, [], sbOs (gr (daysF co cc)) [2, 3, 4]⟩ : Fv) = _
  rw [e]
theorem some_told (co : Option Addr) (cc : Nat) : ∀ k ∈ [(2 : Int), 3, 4], Told k (gr (daysF co cc) k) := fun k hk => by
  have : 2 ≤ k ∧ k ≤ 4 := by simp at hk; omega
  rw [gr_days]
  exact ⟨⟨by omega, by omega⟩, fit1 (by omega) (by omega) (by omega) (by omega)⟩
theorem gr_some (oo : Option Addr) (oc : Nat) (k : Int) : gr (someF oo oc) k = if 2 ≤ k ∧ k ≤ 4 then [(k, k)] else [] := by
  by_cases h : 2 ≤ k ∧ k ≤ 4
  · rw [if_pos h]
    have : k = 2 ∨ k = 3 ∨ k = 4 := by omega
    rcases this with rfl | rfl | rfl <;> rfl
  · rw [if_neg h, gr_free (exc_none.2 (fun o ho => by simp at ho; rcases ho with rfl | rfl | rfl <;> simp <;> omega))]
    exact cg_out (fun z => by have h : (0 : Int) < 0 := z.1; omega)
theorem rt_some3 (oo : Option Addr) (oc : Nat) : (someF oo oc).Rt := by
  have nx : ∀ i (h : i < someOs.length), someOs[i].1 = (i : Int) + 2 ∧ someOs[i].2 = [((i : Int) + 2, (i : Int) + 2)] := fun i h => by
    have : i = 0 ∨ i = 1 ∨ i = 2 := by simp at h; omega
    rcases this with rfl | rfl | rfl <;> exact ⟨rfl, rfl⟩
  have gd : ∀ x : Int, -1099511627776 ≤ x → x ≤ 1099511627776 → Good [(x, x)] := fun x h1 h2 => by simp [Good, Rt]; omega
  refine ⟨.inl ⟨rfl, rfl, rfl⟩, fun l hl => (by cases hl), ⟨fun o ho => ?_, by simp⟩, (⟨by simp, fun a ha => (by cases ha)⟩ : RisOk [] 0), fun i => ⟨fun h j hj => ?_, fun h j hj => ?_⟩⟩
  · simp at ho
    rcases ho with rfl | rfl | rfl <;> exact ⟨gd _ (by decide) (by decide), by decide, by decide⟩
  · obtain ⟨a, b, c⟩ := hj.yes rfl
    obtain ⟨e1, e2⟩ := nx i h
    have e1 : (someF oo oc).os[i].1 = (i : Int) + 2 := e1
    have e2 : (someF oo oc).os[i].2 = [((i : Int) + 2, (i : Int) + 2)] := e2
    rw [e1] at a
    rw [e2]
    rw [gr_some] at b ⊢
    by_cases q : 2 ≤ j ∧ j ≤ 4
    · rw [if_pos q]
      exact ⟨fit1 (by omega) (by omega) (by omega) (by omega), fun _ => by simp [hullA, hullB]; omega⟩
    · rw [if_neg q] at b; exact absurd rfl b
  · obtain ⟨a, b, c⟩ := hj.yes rfl
    obtain ⟨e1, e2⟩ := nx i h
    have e1 : (someF oo oc).os[i].1 = (i : Int) + 2 := e1
    have e2 : (someF oo oc).os[i].2 = [((i : Int) + 2, (i : Int) + 2)] := e2
    rw [e1] at a
    rw [e2]
    rw [gr_some] at b ⊢
    by_cases q : 2 ≤ j ∧ j ≤ 4
    · rw [if_pos q]
      exact ⟨fit1 (by omega) (by omega) (by omega) (by omega), fun _ => by simp [hullA, hullB]; omega⟩
    · rw [if_neg q] at b; exact absurd rfl b
theorem can_some (oo : Option Addr) (oc : Nat) (ko : Option Addr) (kc : Nat) (lo : Option Addr) (lc : Nat) : IsCan (someF oo oc) (⟨0, 0, ko, 0, kc, lo, 3, lc, [], someOs⟩ : Fv) :=
  ⟨.inl ⟨rfl, fun l h => (by cases h)⟩, rfl, rfl, rfl, (show someOs = someOs.filter (fun o : Gr => !(decide (o.2 = cg [] 0 0 o.1))) by decide)⟩
/-- Days shifted. -/
theorem later_f (co : Option Addr) (cc : Nat) : shF (daysF co cc) 3 = oneF 1 [(-3, -3)] [] none 0 none 0 := by
  show (⟨1, 1, none, 1, 0, none, 0, 0, shCs [[((0 : Int), (0 : Int))]] 1 1 3, []⟩ : Fv) = _
  rw [show shCs [[((0 : Int), (0 : Int))]] 1 1 3 = [[(-3, -3)]] by decide]; rfl
theorem rt_later : (oneF 1 [(-3, -3)] [] none 0 none 0).Rt := rt_one (by decide) (by decide) (by simp [Good, Rt]) (ris_one (by decide)) none 0 none 0
theorem gr_later (co : Option Addr) (cc : Nat) (oo : Option Addr) (oc : Nat) : gr (oneF 1 [(-3, -3)] [] co cc oo oc) 0 = [(-3, -3)] := by
  rw [gr_free rfl]; show cg [[(-3, -3)]] 1 1 0 = _; decide
end Go.Proofs.Ytmjapbjjfhmohaa
