/- N2, I47 in one. -/
import Derived.Test.YtmjapbjjfhmohaaKx
import Derived.Test.YtmjapbjjfhmohaaKy
import Derived.Test.YtmjapbjjfhmohaaKp
namespace Go.Proofs.Ytmjapbjjfhmohaa
set_option linter.unusedVariables false
set_option linter.unusedSimpArgs false
open Go.ChangeShapes Go.WideShapes Go.ChangeAt Go.RowKit Go.Shelf

/-- The groups of exceptions. -/
def gpStep (S : Int → List Sp) (m : Nat) (acc : List Gr) (o : Gr) : List Gr := if acc.getLast?.map (fun z => z.1) = some (o.1.fdiv (m : Int)) then acc else acc ++ [(o.1.fdiv (m : Int), colF (60000 - (lens (tks acc) : Int)) (many S (o.1.fdiv (m : Int) * (m : Int)) m))]
def gpOs (S : Int → List Sp) (m : Nat) (os : List Gr) : List Gr := os.foldl (gpStep S m) []
theorem gpOs_snoc (S : Int → List Sp) (m : Nat) (os : List Gr) (o : Gr) : gpOs S m (os ++ [o]) = gpStep S m (gpOs S m os) o := by simp [gpOs]
theorem gpStep_len (S : Int → List Sp) (m : Nat) (acc : List Gr) (o : Gr) : (gpStep S m acc o).length ≤ acc.length + 1 := by unfold gpStep; split <;> simp
theorem gp_len (S : Int → List Sp) (m : Nat) : ∀ (os acc : List Gr), (os.foldl (gpStep S m) acc).length ≤ acc.length + os.length
  | [], acc => by simp
  | o :: r, acc => by
    have h1 := gpStep_len S m acc o
    have h2 := gp_len S m r (gpStep S m acc o)
    rw [List.foldl_cons, List.length_cons]
    omega
theorem gpOs_len (S : Int → List Sp) (m : Nat) (os : List Gr) : (gpOs S m os).length ≤ os.length := by
  have := gp_len S m os []
  rw [List.length_nil, Nat.zero_add] at this
  exact this
theorem colF_len (room : Int) : ∀ (ls : List (List Sp)) (a : List Sp) (M : Nat), (∀ l ∈ ls, l.length ≤ M) → (ls.foldl (colS room) a).length ≤ a.length + ls.length * M
  | [], a, M, _ => by simp
  | l :: r, a, M, h => by
    have h1 := (colS_len room a l).1
    have h2 := h l List.mem_cons_self
    have h3 := colF_len room r (colS room a l) M (fun x hx => h x (List.mem_cons_of_mem _ hx))
    rw [List.foldl_cons, List.length_cons, Nat.add_mul]
    omega
theorem many_lens {S : Int → List Sp} {M : Nat} (h : ∀ j, (S j).length ≤ M) (x : Int) (m : Nat) (room : Int) : (colF room (many S x m)).length ≤ m * M := by
  have := colF_len room (many S x m) [] M (fun l hl => by
    unfold many at hl
    obtain ⟨j, _, rfl⟩ := List.mem_map.1 hl
    exact h _)
  rw [many_len, List.length_nil, Nat.zero_add] at this
  exact this
theorem gr_lens {F : Fv} {M : Nat} (h1 : ∀ l ∈ F.cs, l.length ≤ M) (h2 : ∀ o ∈ F.os, o.2.length ≤ M) (i : Int) : (gr F i).length ≤ M := by
  unfold gr
  cases e : exc F.os i with
  | none => exact cg_len_le h1 i
  | some l =>
    unfold exc at e
    obtain ⟨o, ho, rfl⟩ := Option.map_eq_some_iff.1 e
    exact h2 o (List.mem_of_find?_eq_some ho)
/-- How many groups a core has (a), and how many of its turns they are (k). -/
def Pa (F : Fv) (m a k : Nat) : Prop := (F.N = 0 ∧ F.P = 0 ∧ F.cs = [] ∧ a = 0 ∧ k = 1) ∨ (F.N = (F.cn : Int) ∧ 0 < F.cn ∧ F.cn / Nat.gcd F.cn m * m = a * m ∧ a * m = F.cn * k ∧ 0 < a ∧ a ≤ F.cn ∧ 0 < k ∧ k ≤ m ∧ 1 ≤ F.P ∧ F.P ≤ 1099511627776)
theorem pa_ex {F : Fv} {m : Nat} (h : F.Meas) (hl : F.cs.length = F.cn) (hm : 0 < m) : ∃ a k, Pa F m a k := by
  rcases h with ⟨a, b, c⟩ | ⟨a, b, c, d⟩
  · exact ⟨0, 1, .inl ⟨a, b, List.eq_nil_of_length_eq_zero (by omega), rfl, rfl⟩⟩
  · have h0 : 0 < F.cn := by omega
    obtain ⟨g, x, k, e1, e2, e3, e4, e5, e6, e7⟩ := gcd_parts h0 hm
    refine ⟨x, k, .inr ⟨b, h0, e6, e7, e4, ?_, e5, ?_, c, d⟩⟩
    · rw [e1]; exact Nat.le_mul_of_pos_left x e3
    · rw [e2]; exact Nat.le_mul_of_pos_left k e3
/-- The core's groups are in range. -/
def CoreOK (F : Fv) (m a k : Nat) : Prop := k * lens F.cs ≤ 60000 ∧ F.P * k ≤ 1099511627776 ∧ ∀ i, i < a → ∀ j, j < m → Fit (cg F.cs F.P F.N ((i : Int) * (m : Int) + (j : Int)))
def GrpOK (F : Fv) (m a k : Nat) : Prop := CoreOK F m a k ∧ ∀ o ∈ F.os, ∀ j, j < m → Told (o.1.fdiv (m : Int) * (m : Int) + (j : Int)) (gr F (o.1.fdiv (m : Int) * (m : Int) + (j : Int)))
/-- The groups, before they are done. -/
def gpF (F : Fv) (m a k : Nat) : Fv := ⟨F.P * k, a, none, a, 0, none, (gpOs (gr F) m F.os).length, 0, grpCs F.cs F.P F.N m a, gpOs (gr F) m F.os⟩
theorem core_all (F : Fv) (m a k : Nat) (w : World) (hF : F.At w) (ok : F.Ok) (hc2 : F.cn ≤ 12) (hs : ∀ l ∈ F.cs, l.length ≤ 1000) (hm1 : 1 ≤ m) (hm2 : m ≤ 6000) (hp : Pa F m a k) :
    Calls Try.prog 23 #[F.v, .int .i64 (m : Int)] w fun e w' => ∃ (P N : Int) (xo : Option Addr) (xn xc : Nat) (kw : Int), e = .returned (.tuple #[.agg #[.int .i64 P, .int .i64 N, .slice xo xn xc, .slice none 0 0], .int .i64 kw]) ∧ Hid (Below w.heap.size w w') ∧ Hid ((kw = 0 ∧ CoreOK F m a k ∧ P = F.P * k ∧ N = (a : Int) ∧ xn = a ∧ CoOwn w' w.heap.size (.slice xo xn xc) a (grpCs F.cs F.P F.N m a)) ∨ (kw = 3 ∧ 60000 < k * lens F.cs) ∨ (kw = 20 ∧ k * lens F.cs ≤ 60000 ∧ ¬ CoreOK F m a k)) := by
  rcases hp with ⟨h1, h2, h3, rfl, rfl⟩ | ⟨h1, h2, h3, h4, h5, h6, h7, h8, h9, h10⟩
  · refine (core_none F m w hF h1).mono ?_
    rintro e w' ⟨rfl, q⟩
    exact ⟨0, 0, none, 0, 0, 0, rfl, q, Lib.hid (.inl ⟨rfl, ⟨by rw [h3]; simp [lens], by rw [h2]; omega, fun i h => absurd h (Nat.not_lt_zero i)⟩, by rw [h2]; rfl, rfl, rfl, ⟨by rw [grpCs_len], [], World.ownsRow_nil _ _ _ _, fun i h => by rw [grpCs_len] at h; exact absurd h (Nat.not_lt_zero i)⟩⟩)⟩
  · refine (core_any F m a k (a * m) w hF ok h1 h2 hc2 h9 h10 hs hm1 hm2 h3 rfl h4 h5 (by omega) h7 (by omega)).mono ?_
    rintro e w' ⟨h, q⟩
    rcases h with ⟨a1, rfl⟩ | ⟨a1, a2, rfl⟩ | ⟨a1, a2, a3, co, c, rfl, a4⟩
    · exact ⟨0, 0, none, 0, 0, 3, rfl, q, Lib.hid (.inr (.inl ⟨rfl, a1⟩))⟩
    · refine ⟨0, 0, none, 0, 0, 20, rfl, q, Lib.hid (.inr (.inr ⟨rfl, a1, fun z => ?_⟩))⟩
      rcases a2 with a2 | a2
      · have := z.2.1; omega
      · exact a2 z.2.2
    · exact ⟨F.P * k, a, co, a, c, 0, rfl, q, Lib.hid (.inl ⟨rfl, ⟨a1, a2, a3⟩, rfl, rfl, rfl, a4⟩)⟩
/-- The closure that tells a form's sets. -/
theorem tell26_any (F : Fv) (j : Int) (bf : Nat) (w : World) (hF : F.At w) (ok : F.Ok) (hb : w.heap[bf]? = some (.cells F.box 25 (0, 0))) :
    Calls Try.prog 26 #[.int .i64 j, .pointer (some ⟨bf, 0, none⟩)] w fun e w' => ∃ v k, e = .returned (.tuple #[v, .int .i64 k]) ∧ Hid (Below w.heap.size w w') ∧ Hid (TO (gr F) (fun j => Told j (gr F j)) w.heap.size j (v, k) w') := by
  have HR := Lib.hid (get_any F j w hF ok)
  obtain ⟨P, N, co, cn, cc, oo, on, oc, cs, os⟩ := F
  obtain ⟨S, hS⟩ : ∃ z, gr ⟨P, N, co, cn, cc, oo, on, oc, cs, os⟩ = z := ⟨_, rfl⟩
  rw [hS] at HR ⊢
  have c0 := cell_block hb 0
  have c1 := cell_block hb 1
  have c2 := cell_block hb 2
  have c3 := cell_block hb 3
  have HR : Hid (Calls Try.prog 13 #[.agg #[.int .i64 P, .int .i64 N, .slice co cn cc, .slice oo on oc], .int .i64 j] w fun e w' => ∃ (v : Value) (k : Int), e = .returned (.tuple #[v, .int .i64 k]) ∧ Below w.heap.size w w' ∧ Hid ((Told j (S j) ∧ k = 0 ∧ w'.ownsRow w.heap.size 50 2 v (S j).length (spCells (S j))) ∨ (¬ Told j (S j) ∧ k = 20 ∧ v = .slice none 0 0))) := HR
  clear hF ok hb hS
  go_enter Try.func26, Try.ntmps26
  go_wp2_with fail
  (with_reducible refine HR.out.mono ?_)
  rintro e w1 ⟨v, k, rfl, q, hv⟩
  have HQ := Lib.hid q
  clear q c0 c1 c2 c3
  go_wp2
  go_returns
  exact ⟨v, k, rfl, HQ, hv⟩
/-- The boxes while Group goes on. -/
structure GpW (w W : World) (b r g n₁ : Nat) (P N : Int) (bx : Array Value) (vc vo : Value) : Prop where
  bw : Below w.heap.size w W
  sz : n₁ ≤ W.heap.size
  b0 : W.heap[b]? = some (.cells bx 25 (0, 0))
  b1 : W.heap[r]? = some (.cells #[.int .i64 0, .int .i64 0, .slice none 0 0, .slice none 0 0] 25 (0, 0))
  g_ : W.heap[g]? = some (.cells #[.int .i64 P, .int .i64 N, vc, vo] 25 (0, 0))
  lo : w.heap.size ≤ b
  br : b < r
  mid : r < g
  hi : g < n₁
theorem GpW.grown {w W W' : World} {b r g n₁ : Nat} {P N : Int} {bx : Array Value} {vc vo : Value} {row : Option Nat} (h : GpW w W b r g n₁ P N bx vc vo) (hg : W.grownBy W' row) (hr : ∀ q, row = some q → n₁ ≤ q) : GpW w W' b r g n₁ P N bx vc vo := by
  have lo := h.lo; have br := h.br; have mid := h.mid; have hi := h.hi
  have bl : ∀ {k : Nat} {o : Obj}, k < n₁ → W.heap[k]? = some o → W'.heap[k]? = some o := fun h1 h2 => (hg.block _ (Array.getElem?_eq_some_iff.1 h2).1 (fun e => by have := hr _ e.symm; omega)).trans h2
  exact ⟨h.bw.grown hg h.bw.size (fun r e => by have := hr r e; omega), Nat.le_trans h.sz hg.size, bl (by omega) h.b0, bl (by omega) h.b1, bl hi h.g_, lo, br, mid, hi⟩
theorem GpW.keep {w W W' : World} {b r g n₁ : Nat} {P N : Int} {bx : Array Value} {vc vo : Value} (h : GpW w W b r g n₁ P N bx vc vo) (k : Below W.heap.size W W') : GpW w W' b r g n₁ P N bx vc vo := h.grown (grown_of_below k) (fun r e => by cases e)
theorem GpW.put {w W : World} {b r g n₁ : Nat} {P N : Int} {bx : Array Value} {vc vo : Value} (h : GpW w W b r g n₁ P N bx vc vo) (u : Value) : GpW w (W.setCell ⟨g, 3, none⟩ u) b r g n₁ P N bx vc u := by
  have lo := h.lo; have br := h.br; have mid := h.mid; have hi := h.hi
  have bl : ∀ {k : Nat} {o : Obj}, k ≠ g → W.heap[k]? = some o → (W.setCell ⟨g, 3, none⟩ u).heap[k]? = some o := fun h1 h2 => (Below.heap_setCell W ⟨g, 3, none⟩ u _ h1).trans h2
  exact ⟨h.bw.setCell (p := ⟨g, 3, none⟩) (by show w.heap.size ≤ g; omega) u, by simpa using h.sz, bl (by omega) h.b0, bl (by omega) h.b1, by rw [set_block h.g_]; rfl, lo, br, mid, hi⟩
/-- One exception more. -/
theorem od_snoc {W : World} {B n : Nat} {v : Value} {os : List Gr} {xs : List Value} {i : Int} {u : Value} {l : List Sp} (hl : os.length = n) (a : W.ownsRow B 52 2 v (n + 1) (xs ++ [.int .i64 i, u])) (b : ∀ i (h : i < os.length), xs[i * 2]? = some (.int .i64 os[i].1) ∧ (∃ u, xs[i * 2 + 1]? = some u ∧ W.ownsRow B 50 2 u os[i].2.length (spCells os[i].2)) ∧ -9223372036854775808 ≤ os[i].1 ∧ os[i].1 ≤ 9223372036854775807) (d : W.ownsRow B 50 2 u l.length (spCells l)) (h1 : -9223372036854775808 ≤ i) (h2 : i ≤ 9223372036854775807) : OdOwn W B v (n + 1) (os ++ [(i, l)]) := by
  have hx : xs.length = n * 2 := by have := a.1; simp at this; omega
  refine ⟨by simp [hl], xs ++ [.int .i64 i, u], a, fun j hj => ?_⟩
  by_cases q : j < os.length
  · obtain ⟨e1, ⟨y, e2, e3⟩, e4⟩ := b j q
    rw [List.getElem_append_left q, List.getElem?_append_left (by omega), List.getElem?_append_left (by omega)]
    exact ⟨e1, ⟨y, e2, e3⟩, e4⟩
  · have z : j = os.length := by simp at hj; omega
    subst z
    rw [List.getElem?_append_right (by omega), List.getElem?_append_right (by omega), List.getElem_append_right (by omega)]
    rw [show os.length * 2 - xs.length = 0 by omega, show os.length * 2 + 1 - xs.length = 1 by omega]
    exact ⟨by simp, ⟨u, by simp, by simpa using d⟩, by simpa using ⟨h1, h2⟩⟩
/-- How far Group's loop has come. -/
def GpS (F : Fv) (m a k : Nat) (i : Nat) (kw : Int) (acc : List Gr) (room : Int) : Prop :=
  (kw = 0 ∧ CoreOK F m a k ∧ acc = gpOs (gr F) m (F.os.take i) ∧ room = 60000 - (lens (tks acc) : Int) ∧ ∀ o ∈ F.os.take i, ∀ j, j < m → Told (o.1.fdiv (m : Int) * (m : Int) + (j : Int)) (gr F (o.1.fdiv (m : Int) * (m : Int) + (j : Int)))) ∨
  (kw = 3 ∧ 60000 < k * lens F.cs) ∨ (kw = 20 ∧ k * lens F.cs ≤ 60000 ∧ ¬ GrpOK F m a k)
/-- What Group answers. -/
def GpOut (F : Fv) (m a k : Nat) (n₀ : Nat) (e : Ending) (w' : World) : Prop :=
  (e = .returned (.tuple #[.agg #[.int .i64 0, .int .i64 0, .slice none 0 0, .slice none 0 0], .int .i64 3]) ∧ (60000 < k * lens F.cs ∨ (GrpOK F m a k ∧ 60000 < (gpF F m a k).size))) ∨
  (e = .returned (.tuple #[.agg #[.int .i64 0, .int .i64 0, .slice none 0 0, .slice none 0 0], .int .i64 20]) ∧ ((k * lens F.cs ≤ 60000 ∧ ¬ GrpOK F m a k) ∨ (GrpOK F m a k ∧ (gpF F m a k).size ≤ 60000 ∧ ¬ (gpF F m a k).Rt))) ∨
  (GrpOK F m a k ∧ (gpF F m a k).size ≤ 60000 ∧ ∃ K G : Fv, (K.P = F.P * k ∧ K.N = (a : Int) ∧ K.cn = a ∧ K.on = (gpOs (gr F) m F.os).length ∧ K.cs = grpCs F.cs F.P F.N m a ∧ K.os = gpOs (gr F) m F.os) ∧ K.Rt ∧ IsCan K G ∧ G.Own w' n₀ ∧ e = .returned (.tuple #[.agg #[.int .i64 G.P, .int .i64 G.N, .slice G.co G.cn G.cc, .slice G.oo G.on G.oc], .int .i64 0]))
section
attribute [local go_sem] Oper.semAt_some

set_option maxRecDepth 100000 in
set_option maxHeartbeats 4000000 in
theorem sets_in47 (S : Int → List Sp) (ok : Int → Prop) (from_ : Int) (count bf : Nat) (n₀ n₁ bl m : Nat) (hm : 1 ≤ m) (l x y z : Nat) (J Jx : Nat → World → Prop) (W : World)
    (hY : ∀ s v V, J s V → StR S ok n₁ bl from_ count s v V → YieldAt Fence.wide (m - 1) Try.prog l (enc2 v) V fun e V' => (e = .returned (.bool true) ∧ J (s + 1) V' ∧ Kz n₀ n₁ bl V V') ∨ (e = .returned (.bool false) ∧ Jx (s + 1) V'))
    (hJ : AbidesFrom W.heap.size J) (hn : n₀ ≤ W.heap.size) (hn1 : n₁ ≤ W.heap.size) (hr : -9223372036854775808 ≤ from_ ∧ from_ + (count : Int) ≤ 9223372036854775807 ∧ (count : Int) ≤ 9223372036854775807)
    (hT : ∀ W' (j : Int), Kz n₀ n₁ bl W W' → n₁ ≤ W'.heap.size → from_ ≤ j → j < from_ + (count : Int) → Calls Try.prog 47 #[.int .i64 j, .pointer (some ⟨bf, 0, none⟩)] W' fun e V => ∃ v k, e = .returned (.tuple #[v, .int .i64 k]) ∧ Hid (Below W'.heap.size W' V) ∧ Hid (TO S ok W'.heap.size j (v, k) V))
    (hpr : Pr bl W) (hbl : bl < n₁) (hx : x < n₁ ∧ x ≠ bl) (hy : y < n₁ ∧ y ≠ bl) (hz : z < n₁ ∧ z ≠ bl) (bx : W.heap[x]? = some (.cells #[.int .i64 from_] 3 (0, 0))) (by_ : W.heap[y]? = some (.cells #[.int .i64 (count : Int)] 3 (0, 0))) (bz : W.heap[z]? = some (.cells #[.func (.func 47) #[] #[.pointer (some ⟨bf, 0, none⟩)]] 72 (0, 0))) (h0 : J 0 W) :
    CallsIn Fence.wide m Try.prog 52 #[.func (.yield l) #[] #[], .pointer (some ⟨y, 0, none⟩), .pointer (some ⟨z, 0, none⟩), .pointer (some ⟨x, 0, none⟩)] W fun e W' => (∃ v, e = .returned v) ∧ ((∃ s, s = count ∧ J s W') ∨ (∃ s, Jx s W')) := by
  have HY := Lib.hid hY
  have HJ := Lib.hid hJ
  have HT := Lib.hid hT
  have HSZ : Hid (n₀ ≤ W.heap.size ∧ n₁ ≤ W.heap.size) := Lib.hid ⟨hn, hn1⟩
  have HPR := Lib.hid hpr
  have HX := Lib.hid hx
  have HYY := Lib.hid hy
  have HZ := Lib.hid hz
  have BX := Lib.hid bx
  have BY := Lib.hid by_
  have BZ := Lib.hid bz
  obtain ⟨r1, r2, r3⟩ := hr
  clear hY hJ hT hn hn1 hx hy hz bx bz hpr
  refine callsIn_of_wp Try.func52 rfl trivial ?_ rfl
  simp only [Try.ntmps52, List.size_toArray, List.length_cons, List.length_nil, Nat.reduceAdd, Nat.reduceSub, Array.replicate_succ, Array.replicate_zero, List.push_toArray, List.append_toArray, List.nil_append, List.cons_append]
  have c0 := cell_block by_ 0
  clear by_
  gi_wp2
  clear c0
  gi_loopw [5, 7] (fun s5 ii wr => ∃ i : Nat, i ≤ count ∧ ii = .int .i64 i ∧ Hid (J i wr) ∧ Hid (Kz n₀ n₁ bl W wr)) (fun s5 ii _ => count - (intOf ii).toNat)
  case atStart => exact ⟨0, Nat.zero_le _, rfl, Lib.hid h0, Lib.hid (Kz.refl _ _ _ _)⟩
  case round =>
    obtain ⟨i, hi, rfl, HJ0, HB⟩ := hrel
    have i0 : (0 : Int) ≤ (i : Int) := by omega
    by_cases ilt : i < count
    · have i1 : (i : Int) < (count : Int) := by omega
      have i2 : (i : Int) + 1 ≤ 9223372036854775807 := by omega
      have HS2 : Hid (n₀ ≤ wr.heap.size ∧ n₁ ≤ wr.heap.size) := Lib.hid (by have := HB.out.below.size; have := HSZ.out; omega)
      have HC := Lib.hid (HT.out wr (from_ + (i : Int)) HB.out HS2.out.2 (by omega) (by omega))
      have e1 : wr.cell? ⟨z, 0, none⟩ = some (.func (.func 47) #[] #[.pointer (some ⟨bf, 0, none⟩)]) := cell_block (HB.out.at HZ.out.1 HZ.out.2 BZ.out) 0
      have e2 : wr.cell? ⟨x, 0, none⟩ = some (.int .i64 from_) := cell_block (HB.out.at HX.out.1 HX.out.2 BX.out) 0
      have w1 : -9223372036854775808 ≤ from_ + (i : Int) := by omega
      have w2 : from_ + (i : Int) ≤ 9223372036854775807 := by omega
      gi_wp2
      refine ⟨trivial, ?_⟩
      refine (callsIn_wide.2 HC.out).mono ?_
      rintro e w2' ⟨v, k, rfl, q5, HTO⟩
      have HJ2 : Hid (J i w2') := Lib.hid (HJ.out _ _ _ none HJ0.out (grown_of_below q5.out) (fun r e => by cases e))
      have HB2 : Hid (Kz n₀ n₁ bl W w2') := Lib.hid (HB.out.trans (Kz.of HS2.out.1 HS2.out.2 hbl q5.out))
      have HTO2 : Hid (StR S ok n₁ bl from_ count i (v, k) w2') := Lib.hid ⟨ilt, by
        rcases HTO.out with ⟨a, b, c⟩ | h
        · exact .inl ⟨a, b, own_base c HS2.out.2⟩
        · exact .inr h, fun va q e1 e2 e3 => by
        have hq : q < wr.heap.size := by
          rw [q5.out.block bl (by have := HS2.out.2; omega)] at e1
          exact HB.out.fr HPR.out va q e1 e2
        rcases HTO.out with ⟨_, _, c⟩ | ⟨_, _, h⟩
        · have := (c.lt q e3).1; omega
        · rw [show (v, k).1 = v from rfl] at e3; dsimp only at h; rw [h] at e3; simp [Value.ownBlock] at e3⟩
      clear q5 e1 e2 HC HTO
      obtain ⟨fn', tmps, assign, body, hy, hR⟩ := HY.out i (v, k) w2' HJ2.out HTO2.out
      have HRr := Lib.hid hR
      clear hR
      dsimp only [enc2] at hy
      gi_wp2
      refine HRr.out.mono ?_
      rintro e w5 (⟨rfl, hJ3, hk3⟩ | ⟨rfl, hJx3⟩)
      · have HJ5 : Hid (J (i + 1) w5) := Lib.hid hJ3
        have HB5 := Lib.hid (HB2.out.trans hk3)
        clear hy hJ3 hk3 HRr
        gi_wp2
        go_roundw
        case rel => exact ⟨i + 1, by omega, by go_num, HJ5, HB5⟩
        case measure => simp [intOf]; omega
      · have HJx3 := Lib.hid hJx3
        clear hy hJx3 HRr
        gi_wp2
        refine bodyPost_ret (results_none rfl _ _ _) rfl ?_
        exact ⟨⟨_, rfl⟩, .inr ⟨_, HJx3.out⟩⟩
    · obtain rfl : count = i := by omega
      gi_wp2
      go_end0
      exact ⟨⟨_, rfl⟩, .inl ⟨_, rfl, HJ0.out⟩⟩
theorem sets_seq47 (S : Int → List Sp) (ok : Int → Prop) (from_ : Int) (count bf : Nat) (n₀ n₁ bl x y z : Nat) (w1 : World) (hn : n₀ ≤ w1.heap.size) (hn1 : n₁ ≤ w1.heap.size) (hr : -9223372036854775808 ≤ from_ ∧ from_ + (count : Int) ≤ 9223372036854775807 ∧ (count : Int) ≤ 9223372036854775807)
    (hT : ∀ W' (j : Int), Kz n₀ n₁ bl w1 W' → n₁ ≤ W'.heap.size → from_ ≤ j → j < from_ + (count : Int) → Calls Try.prog 47 #[.int .i64 j, .pointer (some ⟨bf, 0, none⟩)] W' fun e V => ∃ v k, e = .returned (.tuple #[v, .int .i64 k]) ∧ Hid (Below W'.heap.size W' V) ∧ Hid (TO S ok W'.heap.size j (v, k) V))
    (hpr : Pr bl w1) (hbl : bl < n₁) (hx : x < n₁ ∧ x ≠ bl) (hy : y < n₁ ∧ y ≠ bl) (hz : z < n₁ ∧ z ≠ bl) (bx : w1.heap[x]? = some (.cells #[.int .i64 from_] 3 (0, 0))) (by_ : w1.heap[y]? = some (.cells #[.int .i64 (count : Int)] 3 (0, 0))) (bz : w1.heap[z]? = some (.cells #[.func (.func 47) #[] #[.pointer (some ⟨bf, 0, none⟩)]] 72 (0, 0))) :
    SeqRel Fence.wide 2 Try.prog 52 #[.pointer (some ⟨y, 0, none⟩), .pointer (some ⟨z, 0, none⟩), .pointer (some ⟨x, 0, none⟩)] enc2 (Kz n₀ n₁ bl) (StR S ok n₁ bl from_ count) (fun s _ => s + 1) (fun s => s = count) 0 w1 := fun l J Jx W hW hJ hJx hY h0 => by
  have lt : ∀ {b : Nat} {o : Obj}, w1.heap[b]? = some o → W.heap[b]? = some o := fun e => (hW.block _ (Array.getElem?_eq_some_iff.1 e).1).trans e
  exact sets_in47 S ok from_ count bf n₀ n₁ bl 2 (by omega) l x y z J Jx W hY hJ (Nat.le_trans hn hW.size) (Nat.le_trans hn1 hW.size) hr (fun W' j k => hT W' j ((Kz.of hn hn1 hbl hW).trans k)) ((Kz.of (n₀ := n₀) hn hn1 hbl hW).fr hpr) hbl hx hy hz (lt bx) (lt by_) (lt bz) h0
end
end Go.Proofs.Ytmjapbjjfhmohaa
