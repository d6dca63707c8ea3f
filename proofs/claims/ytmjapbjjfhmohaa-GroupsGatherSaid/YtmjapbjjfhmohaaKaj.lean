/- Y2p, U1, U2, Y3p in one. -/
import Derived.Test.YtmjapbjjfhmohaaKaf
import Derived.Test.YtmjapbjjfhmohaaKag
import Derived.BigRegion
namespace Go.Proofs.Ytmjapbjjfhmohaa
set_option linter.unusedVariables false
set_option linter.unusedSimpArgs false
open Go.ChangeShapes Go.WideShapes Go.ChangeAt Go.RowKit Go.Shelf

theorem get_tell (F : Fv) (x : Int) (W : World) (h : F.At W) (ok : F.Ok) : Calls Try.prog 13 #[F.v, .int .i64 x] W fun e w' => ∃ (ao : Option Addr) (n c : Nat) (L : List Sp) (k : Int), e = .returned (.tuple #[.slice ao n c, .int .i64 k]) ∧ Hid (Below W.heap.size W w') ∧ Hid (SpAt w' ao n c L) ∧ ((k = 0 ∧ Hid (Told x (gr F x) ∧ L = gr F x)) ∨ (k = 20 ∧ Hid (¬ Told x (gr F x)))) := by
  refine (get_any F x W h ok).mono ?_
  rintro e w' ⟨v, k, rfl, q, y⟩
  rcases y.out with ⟨a, rfl, c⟩ | ⟨a, rfl, rfl⟩
  · obtain ⟨ao, n, rfl, s⟩ := own_sp rfl c
    exact ⟨ao, _, n, _, 0, rfl, Lib.hid q, Lib.hid s, .inl ⟨rfl, Lib.hid ⟨a, rfl⟩⟩⟩
  · exact ⟨none, 0, 0, [], 20, rfl, Lib.hid q, Lib.hid (SpAt.nil _), .inr ⟨rfl, Lib.hid a⟩⟩
/-- Forms, boxed. -/
structure Two (w W : World) (b1 b2 : Nat) (Fa Fb : Fv) : Prop where
  a : Fbox Fa w W b1
  b : Fbox Fb w W b2
theorem Two.keep {w W W' : World} {b1 b2 : Nat} {Fa Fb : Fv} (h : Two w W b1 b2 Fa Fb) (k : Below W.heap.size W W') : Two w W' b1 b2 Fa Fb := ⟨h.a.keep k, h.b.keep k⟩
structure Three (w W : World) (b1 b2 b3 : Nat) (Fa Fb Fc : Fv) : Prop where
  a : Fbox Fa w W b1
  b : Fbox Fb w W b2
  c : Fbox Fc w W b3
theorem Three.keep {w W W' : World} {b1 b2 b3 : Nat} {Fa Fb Fc : Fv} (h : Three w W b1 b2 b3 Fa Fb Fc) (k : Below W.heap.size W W') : Three w W' b1 b2 b3 Fa Fb Fc := ⟨h.a.keep k, h.b.keep k, h.c.keep k⟩
theorem fbox_in {F : Fv} {w0 w : World} {b : Nat} (h : F.At w) (hb : w.heap.size = b) (k : Below w0.heap.size w0 w) : Fbox F w0 (w.alloc (.cells F.box 25)) b := by
  have q := (Below.refl _ w).alloc (Nat.le_refl _) (.cells F.box 25)
  have hh : (w.alloc (.cells F.box 25)).heap[b]? = some (.cells F.box 25 (0, 0)) := heap_at hb
  exact ⟨h.keep q, cell_block hh 0, cell_block hh 1, cell_block hh 2, cell_block hh 3, k.trans (q.mono k.size)⟩
theorem can_few {K G : Fv} (c : IsCan K G) (f : Full K.cs K.N ∨ K.cs = []) (h : K.Few) (l1 : K.cs.length = K.cn) (l2 : K.os.length = K.on) (l3 : G.os.length = G.on) : G.Few := by
  obtain ⟨a, b, d, e⟩ := h
  refine ⟨?_, ?_, fun l hl => ?_, fun o ho => ?_⟩
  · rcases c.turn with ⟨h, _⟩ | ⟨⟨l, hl, _⟩, h, _⟩
    · omega
    · rcases f with f | f
      · have := turn_le f h; omega
      · rw [f] at hl; cases hl
  · have := List.length_filter_le (fun o : Gr => !(decide (o.2 = cg K.cs K.P K.N o.1))) K.os
    have e : G.os.length ≤ K.os.length := by rw [c.os]; exact this
    omega
  · rw [c.cs] at hl; exact d l (List.mem_of_mem_take hl)
  · rw [c.os] at ho; exact e o (List.mem_filter.1 ho).1
theorem can_is {K G : Fv} (c : IsCan K G) (f : Full K.cs K.N ∨ K.cs = []) : IsTurn G.cs G.P G.N G.cn ∧ ∀ o ∈ G.os, o.2 ≠ cg G.cs G.P G.N o.1 := by
  have h := can_can c f
  refine ⟨h.turn, fun o ho => ?_⟩
  rw [h.os] at ho
  simpa using (List.mem_filter.1 ho).2

/-- Two sets behind each other. -/
def cat (a l : List Sp) : List Sp := (glue a l).1 ++ (glue a l).2
theorem cat_nil (a : List Sp) : cat a [] = a := by simp [cat, glue_nil]
theorem nil_cat (l : List Sp) : cat [] l = l := by simp [cat, glue_bare]
theorem cat_snoc (a0 : List Sp) (x s : Sp) (r : List Sp) : cat (a0 ++ [x]) (s :: r) = if x.2 + 1 = s.1 then a0 ++ (x.1, s.2) :: r else a0 ++ x :: s :: r := by
  unfold cat
  rw [glue_snoc]
  split <;> simp
theorem cat_app (a0 : List Sp) (x s : Sp) (m : List Sp) (r : List Sp) (hm : m ≠ []) : cat (a0 ++ [x]) ((s :: m) ++ r) = cat (a0 ++ [x]) (s :: m) ++ r := by
  rw [List.cons_append, cat_snoc, cat_snoc]
  split <;> simp
theorem cat_pre (p b c : List Sp) (hb : b ≠ []) : cat (p ++ b) c = p ++ cat b c := by
  cases c with
  | nil => rw [cat_nil, cat_nil]
  | cons s r =>
    rcases List.eq_nil_or_concat b with rfl | ⟨b0, x, rfl⟩
    · exact absurd rfl hb
    · rw [List.concat_eq_append, ← List.append_assoc, cat_snoc, cat_snoc]
      split <;> simp
theorem cat_assoc (a b c : List Sp) : cat (cat a b) c = cat a (cat b c) := by
  rcases List.eq_nil_or_concat a with rfl | ⟨a0, x, rfl⟩
  · rw [nil_cat, nil_cat]
  · rw [List.concat_eq_append]
    cases b with
    | nil => rw [cat_nil, nil_cat]
    | cons s r =>
      cases r with
      | nil =>
        -- one span in between
        cases c with
        | nil => rw [cat_nil, cat_nil]
        | cons u v =>
          have e2 : cat [s] (u :: v) = if s.2 + 1 = u.1 then (s.1, u.2) :: v else s :: u :: v := cat_snoc [] s u v
          rw [e2, cat_snoc]
          by_cases h1 : x.2 + 1 = s.1
          · rw [if_pos h1, show a0 ++ [(x.1, s.2)] = a0 ++ [(x.1, s.2)] from rfl, cat_snoc]
            by_cases h2 : s.2 + 1 = u.1
            · rw [if_pos h2, if_pos h2, cat_snoc, if_pos h1]
            · rw [if_neg h2, if_neg h2, cat_snoc, if_pos h1]
          · rw [if_neg h1, show a0 ++ [x, s] = (a0 ++ [x]) ++ [s] by simp, cat_snoc]
            by_cases h2 : s.2 + 1 = u.1
            · rw [if_pos h2, if_pos h2, cat_snoc, if_neg h1]; simp
            · rw [if_neg h2, if_neg h2, cat_snoc, if_neg h1]; simp
      | cons s2 r2 =>
        have hb : (s2 :: r2) ≠ [] := by simp
        have hc : cat (s :: s2 :: r2) c = s :: cat (s2 :: r2) c := by
          rw [show s :: s2 :: r2 = [s] ++ (s2 :: r2) from rfl, cat_pre [s] (s2 :: r2) c hb]; rfl
        rw [hc, cat_snoc, cat_snoc]
        split
        · rw [show a0 ++ (x.1, s.2) :: s2 :: r2 = (a0 ++ [(x.1, s.2)]) ++ (s2 :: r2) by simp, cat_pre _ _ c hb]; simp
        · rw [show a0 ++ x :: s :: s2 :: r2 = (a0 ++ [x, s]) ++ (s2 :: r2) by simp, cat_pre _ _ c hb]; simp
/-- All that is collected. -/
def colU (ls : List (List Sp)) : List Sp := ls.foldl cat []
theorem foldl_cat : ∀ (ls : List (List Sp)) (a : List Sp), ls.foldl cat a = cat a (colU ls)
  | [], a => by simp [colU, cat_nil]
  | l :: r, a => by
    show r.foldl cat (cat a l) = cat a (r.foldl cat (cat [] l))
    rw [foldl_cat r, foldl_cat r, nil_cat, cat_assoc]
theorem colU_app (l k : List (List Sp)) : colU (l ++ k) = cat (colU l) (colU k) := by
  unfold colU
  rw [List.foldl_append, foldl_cat]; rfl
theorem colU_one (l : List Sp) : colU [l] = l := nil_cat l
theorem many_add (S : Int → List Sp) (y : Int) (p q : Nat) : many S y (p + q) = many S y p ++ many S (y + (p : Int)) q := by
  unfold many
  rw [List.range_add, List.map_append, List.map_map]
  congr 1
  apply List.map_congr_left
  intro j _
  simp only [Function.comp]
  congr 1
  omega
/-- Grouped by a, and then by b. -/
theorem colU_twice (S : Int → List Sp) (a : Nat) : ∀ (b : Nat) (y : Int), colU (many (fun j => colU (many S (j * (a : Int)) a)) y b) = colU (many S (y * (a : Int)) (b * a))
  | 0, y => by simp [many]
  | b + 1, y => by
    have e1 : many (fun j => colU (many S (j * (a : Int)) a)) y (b + 1) = many (fun j => colU (many S (j * (a : Int)) a)) y b ++ [colU (many S ((y + (b : Int)) * (a : Int)) a)] := many_snoc _ y b
    rw [e1, colU_app, colU_one, colU_twice S a b y, Nat.add_mul, Nat.one_mul, many_add, colU_app]
    congr 3
    rw [Int.add_mul, Int.natCast_mul]
/-- What is cut off is too long. -/
theorem colS_cat {room : Int} {a l : List Sp} (h : (a.length : Int) ≤ room) : colS room a l = cat a l := by
  unfold colS cat
  rw [if_pos (by have := (glue_len a l).1; omega)]
theorem col_mono (room : Int) : ∀ (ls : List (List Sp)) (a : List Sp), a.length ≤ (ls.foldl (colS room) a).length
  | [], a => Nat.le_refl _
  | l :: r, a => Nat.le_trans (colS_len room a l).2 (col_mono room r (colS room a l))
theorem col_cat (room : Int) : ∀ (ls : List (List Sp)) (a : List Sp), ((ls.foldl (colS room) a).length : Int) ≤ room → ls.foldl (colS room) a = ls.foldl cat a
  | [], a, _ => rfl
  | l :: r, a, h => by
    have h1 := col_mono room (l :: r) a
    rw [List.foldl_cons] at h ⊢
    have h2 : colS room a l = cat a l := colS_cat (by rw [List.foldl_cons] at h1; omega)
    rw [col_cat room r _ h, List.foldl_cons, h2]
theorem colF_colU {room : Int} {ls : List (List Sp)} (h : ((colF room ls).length : Int) ≤ room) : colF room ls = colU ls := col_cat room ls [] h
/-- The exceptions of groups. -/
structure GpI (S : Int → List Sp) (m : Nat) (done acc : List Gr) : Prop where
  own : ∀ z ∈ acc, z.2 = colU (many S (z.1 * (m : Int)) m) ∨ 60000 < lens (tks acc)
  frm : ∀ z ∈ acc, ∃ o ∈ done, z.1 = o.1.fdiv (m : Int)
  all : ∀ o ∈ done, ∃ z ∈ acc, z.1 = o.1.fdiv (m : Int)
theorem gp_inv (S : Int → List Sp) (m : Nat) : ∀ (os done acc : List Gr), GpI S m done acc → GpI S m (done ++ os) (os.foldl (gpStep S m) acc)
  | [], done, acc, h => by simpa using h
  | o :: r, done, acc, h => by
    have key : GpI S m (done ++ [o]) (gpStep S m acc o) := by
      unfold gpStep
      split
      · rename_i e
        refine ⟨h.own, fun z hz => ?_, fun q hq => ?_⟩
        · obtain ⟨y, h1, h2⟩ := h.frm z hz
          exact ⟨y, List.mem_append.2 (.inl h1), h2⟩
        · rcases List.mem_append.1 hq with hq | hq
          · exact h.all q hq
          · rw [List.mem_singleton.1 hq]
            obtain ⟨z, h1, h2⟩ := Option.map_eq_some_iff.1 e
            exact ⟨z, List.mem_of_getLast? h1, h2⟩
      · have e2 : ∀ z : Gr, lens (tks (acc ++ [z])) = lens (tks acc) + z.2.length := lens_snocG acc
        refine ⟨fun z hz => ?_, fun z hz => ?_, fun q hq => ?_⟩
        · rcases List.mem_append.1 hz with hz | hz
          · rcases h.own z hz with h1 | h1
            · exact .inl h1
            · right; rw [e2]; omega
          · rw [List.mem_singleton.1 hz]
            by_cases q : ((colF (60000 - (lens (tks acc) : Int)) (many S (o.1.fdiv (m : Int) * (m : Int)) m)).length : Int) ≤ 60000 - (lens (tks acc) : Int)
            · exact .inl (colF_colU q)
            · right
              rw [e2]
              dsimp only
              omega
        · rcases List.mem_append.1 hz with hz | hz
          · obtain ⟨y, h1, h2⟩ := h.frm z hz
            exact ⟨y, List.mem_append.2 (.inl h1), h2⟩
          · rw [List.mem_singleton.1 hz]
            exact ⟨o, by simp, rfl⟩
        · rcases List.mem_append.1 hq with hq | hq
          · obtain ⟨z, h1, h2⟩ := h.all q hq
            exact ⟨z, List.mem_append.2 (.inl h1), h2⟩
          · rw [List.mem_singleton.1 hq]
            exact ⟨_, List.mem_append.2 (.inr List.mem_cons_self), rfl⟩
    have := gp_inv S m r (done ++ [o]) (gpStep S m acc o) key
    rw [List.foldl_cons]
    simpa using this
theorem gp_is (S : Int → List Sp) (m : Nat) (os : List Gr) : GpI S m os (gpOs S m os) := by
  have := gp_inv S m os [] [] ⟨fun z h => (by cases h), fun z h => (by cases h), fun z h => (by cases h)⟩
  simpa [gpOs] using this
theorem fdiv_of {x j : Int} {m : Nat} (h1 : 0 ≤ j) (h2 : j < (m : Int)) : (x * (m : Int) + j).fdiv (m : Int) = x := by
  have h0 : (0 : Int) < (m : Int) := by omega
  have e := Int.mul_fdiv_add_fmod (x * (m : Int) + j) (m : Int)
  have r1 := Int.fmod_nonneg_of_pos (x * (m : Int) + j) h0
  have r2 := Int.fmod_lt_of_pos (x * (m : Int) + j) h0
  obtain ⟨q, hq⟩ : ∃ q, (x * (m : Int) + j).fdiv (m : Int) = q := ⟨_, rfl⟩
  rw [hq] at e ⊢
  obtain ⟨r, hr⟩ : ∃ r, (x * (m : Int) + j).fmod (m : Int) = r := ⟨_, rfl⟩
  rw [hr] at e r1 r2
  have e2 : (m : Int) * (q - x) = j - r := by rw [Int.mul_sub, Int.mul_comm (m : Int) x]; omega
  rcases Int.lt_trichotomy q x with h | h | h
  · have : (m : Int) * (q - x) ≤ (m : Int) * (-1) := Int.mul_le_mul_of_nonneg_left (by omega) (by omega)
    omega
  · exact h
  · have : (m : Int) * 1 ≤ (m : Int) * (q - x) := Int.mul_le_mul_of_nonneg_left (by omega) (by omega)
    omega
/-- A group of the core. -/
theorem gp_cg {F : Fv} {m a k : Nat} (hp : Pa F m a k) (hm : 0 < m) (hl : F.cs.length = F.cn) (sz : (gpF F m a k).size ≤ 60000) (x : Int) : cg (gpF F m a k).cs (gpF F m a k).P (gpF F m a k).N x = colU (many (cg F.cs F.P F.N) (x * (m : Int)) m) := by
  rcases hp with ⟨h1, h2, h3, rfl, rfl⟩ | ⟨h1, h2, h3, h4, h5, h6, h7, h8, h9, h10⟩
  · rw [cg_out (fun z => by have h : (0 : Int) < ((0 : Nat) : Int) := z.1; omega)]
    have e : ∀ i, cg F.cs F.P F.N i = [] := fun i => cg_out (fun z => by have := z.1; omega)
    have : ∀ (n : Nat), colU (many (cg F.cs F.P F.N) (x * (m : Int)) n) = [] := by
      intro n
      induction n with
      | zero => rfl
      | succ n ih => rw [many_snoc, colU_app, ih, colU_one, e, cat_nil]
    exact (this m).symm
  · have hf : Full F.cs F.N := ⟨by omega, by omega⟩
    have e : cg (gpF F m a k).cs (gpF F m a k).P (gpF F m a k).N x = grpS (cg F.cs F.P F.N) m x := cg_grp (k := (k : Int)) hf hm h5 (by rw [h1]; exact_mod_cast h4) x
    rw [e]
    refine colF_colU ?_
    show ((grpS (cg F.cs F.P F.N) m x).length : Int) ≤ 60000
    rw [← e]
    have := cg_len_le (P := (gpF F m a k).P) (N := (gpF F m a k).N) (cs := (gpF F m a k).cs) (M := 60000) (fun l hl => by
      have := le_lens hl
      unfold Fv.size at sz
      omega) x
    omega
/-- A group. -/
theorem gp_gr {F : Fv} {m a k : Nat} (hp : Pa F m a k) (hm : 0 < m) (hl : F.cs.length = F.cn) (sz : (gpF F m a k).size ≤ 60000) (x : Int) : gr (gpF F m a k) x = colU (many (gr F) (x * (m : Int)) m) := by
  have hi := gp_is (gr F) m F.os
  have lt : lens (tks (gpOs (gr F) m F.os)) ≤ 60000 := by
    have : lens (gpF F m a k).cs + lens (tks (gpF F m a k).os) ≤ 60000 := sz
    show lens (tks (gpF F m a k).os) ≤ 60000
    omega
  cases e : exc (gpF F m a k).os x with
  | some l =>
    obtain ⟨n, hn, h1, h2⟩ := exc_some e
    have hz : ((gpF F m a k).os[n]) ∈ gpOs (gr F) m F.os := List.getElem_mem hn
    rcases hi.own _ hz with h3 | h3
    · show (match exc (gpF F m a k).os x with | some l => l | none => cg (gpF F m a k).cs (gpF F m a k).P (gpF F m a k).N x) = _
      rw [e, ← h2, h3, h1]
    · omega
  | none =>
    rw [gr_free e, gp_cg hp hm hl sz x]
    congr 1
    unfold many
    apply List.map_congr_left
    intro j hj
    rw [List.mem_range] at hj
    refine (gr_free ?_).symm
    rw [exc_none]
    intro o ho ho2
    obtain ⟨z, hz, hz2⟩ := hi.all o ho
    rw [exc_none] at e
    refine e z hz ?_
    rw [hz2, ho2]
    exact fdiv_of (by omega) (by omega)

/-- What is grouped, when all went well. -/
structure GpG (F : Fv) (m a k : Nat) (G : Fv) : Prop where
  ok : GrpOK F m a k
  size : (gpF F m a k).size ≤ 60000
  rt : (gpF F m a k).Rt
  can : IsCan (gpF F m a k) G
theorem gp_good {F : Fv} {m a k n₀ : Nat} {w' : World} {v : Value} (h : GpOut F m a k n₀ (.returned (.tuple #[v, .int .i64 0])) w') : ∃ G : Fv, v = G.v ∧ GpG F m a k G ∧ G.Own w' n₀ := by
  rcases h with ⟨h, _⟩ | ⟨h, _⟩ | ⟨h1, h2, K, G, ⟨e1, e2, e3, e4, e5, e6⟩, h3, h4, h5, h6⟩
  · simp at h
  · simp at h
  · have e : v = G.v := by
      injection h6 with h6
      injection h6 with h6
      simpa using h6
    exact ⟨G, e, ⟨h1, h2, rt_like h3 e1.symm e2.symm e3.symm e4.symm e5.symm e6.symm, can_like h4 e1 e2 e5 e6⟩, h5⟩
theorem gp_full {F : Fv} {m a k : Nat} (hp : Pa F m a k) : (Full (gpF F m a k).cs (gpF F m a k).N ∨ (gpF F m a k).cs = []) ∧ (gpF F m a k).cs.length = (gpF F m a k).cn := by
  have e : (gpF F m a k).cs.length = a := grpCs_len _ _ _ _ _
  refine ⟨?_, e⟩
  by_cases h : 0 < a
  · exact .inl ⟨by show (0 : Int) < (a : Int); omega, by rw [e]; rfl⟩
  · exact .inr (List.eq_nil_of_length_eq_zero (by omega))
theorem gp_few {F : Fv} {m a k : Nat} (hp : Pa F m a k) (hs : F.Small) (ho : F.os.length = F.on) (hm : m ≤ 12) : (gpF F m a k).Few := by
  have fw := hs.few
  obtain ⟨s1, s2, s3⟩ := hs
  unfold Fv.size at s3
  have l1 : ∀ l ∈ F.cs, l.length ≤ 60 := fun l hl => by have := le_lens hl; omega
  have l2 : ∀ o ∈ F.os, o.2.length ≤ 60 := fun o ho => by have := le_lens (ls := tks F.os) (List.mem_map.2 ⟨o, ho, rfl⟩); omega
  have ha : a ≤ 12 := by rcases hp with ⟨_, _, _, h, _⟩ | ⟨_, _, _, _, _, h, _⟩ <;> omega
  have hb : m * 60 ≤ 12 * 60 := Nat.mul_le_mul_right _ hm
  refine ⟨ha, ?_, fun l hl => ?_, fun o ho => ?_⟩
  · have := gpOs_len (gr F) m F.os
    show (gpOs (gr F) m F.os).length ≤ 8
    omega
  · have := grp_each l1 m a l hl; omega
  · have := gp_each (gr_lens l1 l2) m F.os [] (fun o h => by cases h) o ho; omega
theorem can_len {K G : Fv} {w : World} {B : Nat} (h : G.Own w B) : G.cs.length = G.cn ∧ G.os.length = G.on := ⟨h.at_.core.len, h.at_.odd.len⟩
theorem gp_facts {F : Fv} {m a k : Nat} {X : Fv} (g : GpG F m a k X) (hp : Pa F m a k) (hm : 0 < m) (hl : F.cs.length = F.cn) : (∀ i, cg X.cs X.P X.N i = colU (many (cg F.cs F.P F.N) (i * (m : Int)) m)) ∧ (∀ i, gr X i = colU (many (gr F) (i * (m : Int)) m)) ∧ X.Rt := by
  obtain ⟨f, l⟩ := gp_full hp
  refine ⟨fun i => ?_, fun i => ?_, can_rt g.can g.rt l⟩
  · rw [g.can.cs, g.can.P, g.can.N, can_core f g.can.turn, gp_cg hp hm hl g.size]
  · rw [can_gr g.can f g.rt.odd.inc, gp_gr hp hm hl g.size]
/-- Grouped twice. -/
theorem two_same {F X Y Z : Fv} {a b a1 k1 a2 k2 a3 k3 : Nat} (gx : GpG F a a1 k1 X) (px : Pa F a a1 k1) (gy : GpG X b a2 k2 Y) (py : Pa X b a2 k2) (gz : GpG F (a * b) a3 k3 Z) (pz : Pa F (a * b) a3 k3) (ha : 0 < a) (hb : 0 < b) (lf : F.cs.length = F.cn) (lx : X.cs.length = X.cn) : SameF Y Z := by
  obtain ⟨c1, r1, _⟩ := gp_facts gx px ha lf
  have hab : 0 < a * b := Nat.mul_pos ha hb
  have e : ∀ (S : Int → List Sp) (i : Int), colU (many (fun j => colU (many S (j * (a : Int)) a)) (i * (b : Int)) b) = colU (many S (i * ((a * b : Nat) : Int)) (a * b)) := fun S i => by
    rw [colU_twice, Int.mul_assoc, ← Int.natCast_mul, Nat.mul_comm b a]
  have h1 : ∀ i, cg (gpF X b a2 k2).cs (gpF X b a2 k2).P (gpF X b a2 k2).N i = cg (gpF F (a * b) a3 k3).cs (gpF F (a * b) a3 k3).P (gpF F (a * b) a3 k3).N i := fun i => by
    rw [gp_cg py hb lx gy.size, gp_cg pz hab lf gz.size, ← e]
    rw [show cg X.cs X.P X.N = (fun j => colU (many (cg F.cs F.P F.N) (j * (a : Int)) a)) from funext c1]
  have h2 : ∀ i, gr (gpF X b a2 k2) i = gr (gpF F (a * b) a3 k3) i := fun i => by
    rw [gp_gr py hb lx gy.size, gp_gr pz hab lf gz.size, ← e]
    rw [show gr X = (fun j => colU (many (gr F) (j * (a : Int)) a)) from funext r1]
  exact can_unique gy.can gz.can (gp_full py).1 (gp_full pz).1 gy.rt.odd.inc gz.rt.odd.inc h1 (fun i _ => h2 i)
/-- Grouped, and shifted; shifted, and grouped. -/
theorem move_same {F X K P Q L R : Fv} {a a1 k1 a2 k2 : Nat} {c : Int} (gx : GpG F a a1 k1 X) (px : Pa F a a1 k1) (ha : 0 < a) (lf : F.cs.length = F.cn) (rf : F.Rt) (lx : X.cs.length = X.cn)
    (sk : ShK X K c) (ck : IsCan K P) (sl : ShK F L ((a : Int) * c)) (cl : IsCan L Q) (rl : L.Rt) (ll : L.cs.length = L.cn) (lq : Q.cs.length = Q.cn) (gr_ : GpG Q a a2 k2 R) (pr : Pa Q a a2 k2) : SameF P R := by
  obtain ⟨c1, r1, rx⟩ := gp_facts gx px ha lf
  have fx := full_of rx lx
  have ff := full_of rf lf
  have fl := full_of rl ll
  have fk := sh_full2 sk fx
  have e : ∀ (S : Int → List Sp) (i : Int), colU (many S ((i - c) * (a : Int)) a) = colU (many (fun j => S (j - (a : Int) * c)) (i * (a : Int)) a) := fun S i => by
    congr 1
    unfold many
    apply List.map_congr_left
    intro j _
    have : (i - c) * (a : Int) = i * (a : Int) - (a : Int) * c := by rw [Int.sub_mul, Int.mul_comm c]
    rw [this]
    congr 1
    omega
  have h1 : ∀ i, cg K.cs K.P K.N i = cg (gpF Q a a2 k2).cs (gpF Q a a2 k2).P (gpF Q a a2 k2).N i := fun i => by
    rw [sk.1.2.2.1, sk.1.1, sk.1.2.1, cg_sh fx, c1, gp_cg pr ha lq gr_.size, e]
    rw [show cg Q.cs Q.P Q.N = (fun j => cg F.cs F.P F.N (j - (a : Int) * c)) from funext fun j => by
      rw [cl.cs, cl.P, cl.N, can_core fl cl.turn, sl.1.2.2.1, sl.1.1, sl.1.2.1, cg_sh ff]]
  have h2 : ∀ i, gr K i = gr (gpF Q a a2 k2) i := fun i => by
    rw [gr_sh fx sk.1, r1, gp_gr pr ha lq gr_.size, e]
    rw [show gr Q = (fun j => gr F (j - (a : Int) * c)) from funext fun j => sh_gr sl cl rf lf j]
  exact can_unique ck gr_.can fk (gp_full pr).1 (by rw [sk.1.2.2.2]; exact sh_pair rx.odd.inc c) gr_.rt.odd.inc h1 (fun i _ => h2 i)
theorem colF_one {room : Int} {l : List Sp} (h : 0 ≤ room) : colF room [l] = l := by
  show colS room [] l = l
  rw [colS_cat (by simpa using h), nil_cat]
theorem lens_app : ∀ (a b : List (List Sp)), lens (a ++ b) = lens a + lens b
  | [], b => by simp [lens]
  | l :: r, b => by
    have := lens_app r b
    simp [lens] at this ⊢
    omega
/-- Grouped by one. -/
theorem one_os {S : Int → List Sp} : ∀ (os acc : List Gr), (acc ++ os).Pairwise (fun a b => a.1 < b.1) → (∀ o ∈ os, S o.1 = o.2) → lens (tks (acc ++ os)) ≤ 60000 → os.foldl (gpStep S 1) acc = acc ++ os
  | [], acc, _, _, _ => by simp
  | o :: r, acc, hp, hs, hl => by
    have e1 : o.1.fdiv ((1 : Nat) : Int) = o.1 := by show o.1.fdiv 1 = o.1; simp
    have e2 : gpStep S 1 acc o = acc ++ [o] := by
      unfold gpStep
      rw [e1]
      have ne : ¬ acc.getLast?.map (fun z => z.1) = some o.1 := fun h => by
        obtain ⟨z, h1, h2⟩ := Option.map_eq_some_iff.1 h
        have := (List.pairwise_append.1 hp).2.2 z (List.mem_of_getLast? h1) o List.mem_cons_self
        omega
      rw [if_neg ne]
      have e3 : many S (o.1 * ((1 : Nat) : Int)) 1 = [o.2] := by
        show [S (o.1 * 1 + ((0 : Nat) : Int))] = _
        rw [show o.1 * 1 + ((0 : Nat) : Int) = o.1 by omega, hs o List.mem_cons_self]
      rw [e3]
      have e4 : colF (60000 - (lens (tks acc) : Int)) [o.2] = o.2 := by
        show colS _ [] o.2 = o.2
        rw [colS_cat, nil_cat]
        have : lens (tks acc) ≤ lens (tks (acc ++ o :: r)) := by
          have : tks (acc ++ o :: r) = tks acc ++ tks (o :: r) := by simp [tks]
          rw [this, lens_app]
          omega
        simp
        omega
      rw [e4]
    rw [List.foldl_cons, e2, one_os r (acc ++ [o]) (by simpa using hp) (fun x hx => hs x (List.mem_cons_of_mem _ hx)) (by simpa using hl)]
    simp
theorem one_ok {F : Fv} (hs : F.Small) (rt : F.Rt) (hl : F.cs.length = F.cn) (ho : F.os.length = F.on) : ∃ a k, Pa F 1 a k ∧ GrpOK F 1 a k ∧ (gpF F 1 a k).P = F.P ∧ (gpF F 1 a k).N = F.N ∧ (gpF F 1 a k).cn = F.cn ∧ (gpF F 1 a k).on = F.on ∧ (gpF F 1 a k).cs = F.cs ∧ (gpF F 1 a k).os = F.os := by
  have hz := hs.2.2
  unfold Fv.size at hz
  have eos : gpOs (gr F) 1 F.os = F.os := by
    have := one_os (S := gr F) F.os [] (by simpa using rt.odd.inc) (fun o ho => by
      obtain ⟨n, hn, rfl⟩ := List.getElem_of_mem ho
      exact gr_at rt.odd.inc n hn) (by simp; omega)
    simpa [gpOs] using this
  have told : ∀ o ∈ F.os, ∀ j : Nat, j < 1 → Told (o.1.fdiv ((1 : Nat) : Int) * ((1 : Nat) : Int) + (j : Int)) (gr F (o.1.fdiv ((1 : Nat) : Int) * ((1 : Nat) : Int) + (j : Int))) := fun o ho j hj => by
    obtain rfl : j = 0 := by omega
    have e1 : o.1.fdiv ((1 : Nat) : Int) * ((1 : Nat) : Int) + ((0 : Nat) : Int) = o.1 := by
      have : o.1.fdiv ((1 : Nat) : Int) = o.1 := by show o.1.fdiv 1 = o.1; simp
      rw [this]; omega
    rw [e1]
    have hg := rt.odd.good o ho
    obtain ⟨n, hn, rfl⟩ := List.getElem_of_mem ho
    rw [gr_at rt.odd.inc n hn]
    exact ⟨⟨hg.2.1, hg.2.2⟩, fit_good hg.1⟩
  rcases rt.meas with ⟨h1, h2, h3⟩ | ⟨h1, h2, h3, h4⟩
  · have hc : F.cs = [] := List.eq_nil_of_length_eq_zero (by omega)
    refine ⟨0, 1, .inl ⟨h1, h2, hc, rfl, rfl⟩, ⟨⟨by rw [hc]; simp [lens], by rw [h2]; omega, fun i hi => absurd hi (Nat.not_lt_zero i)⟩, told⟩, ?_, by show ((0 : Nat) : Int) = F.N; rw [h1]; rfl, by show 0 = F.cn; omega, by show (gpOs (gr F) 1 F.os).length = F.on; rw [eos, ho], by show grpCs F.cs F.P F.N 1 0 = F.cs; rw [hc]; rfl, eos⟩
    show F.P * ((1 : Nat) : Int) = F.P
    omega
  · have hf : Full F.cs F.N := ⟨by omega, by omega⟩
    have at0 : ∀ i (h : i < F.cs.length), cg F.cs F.P F.N (i : Int) = F.cs[i] := fun i h => by
      rw [cg_in hf]
      have e1 : ((i : Nat) : Int).fdiv F.N = 0 := by
        rw [Int.fdiv_eq_ediv_of_nonneg _ (by omega)]
        exact Int.ediv_eq_zero_of_lt (by omega) (by omega)
      have e2 : ((i : Nat) : Int).fmod F.N = i := by
        rw [Int.fmod_eq_emod_of_nonneg _ (by omega)]
        exact Int.emod_eq_of_lt (by omega) (by omega)
      rw [e1, Int.mul_zero, moved_zero]
      unfold cset
      rw [e2]
      simp [h]
    have ecs : grpCs F.cs F.P F.N 1 F.cn = F.cs := by
      refine List.ext_getElem (by rw [grpCs_len, hl]) (fun i hi hj => ?_)
      have e0 : (grpCs F.cs F.P F.N 1 F.cn)[i] = grpS (cg F.cs F.P F.N) 1 (i : Int) := by simp [grpCs]
      rw [e0]
      unfold grpS
      have e3 : many (cg F.cs F.P F.N) ((i : Int) * ((1 : Nat) : Int)) 1 = [F.cs[i]] := by
        show [cg F.cs F.P F.N ((i : Int) * 1 + ((0 : Nat) : Int))] = _
        rw [show (i : Int) * 1 + ((0 : Nat) : Int) = (i : Int) by omega, at0 i hj]
      rw [e3]
      exact colF_one (by decide)
    refine ⟨F.cn, 1, .inr ⟨h2, by omega, by simp, by omega, by omega, Nat.le_refl _, by omega, Nat.le_refl _, h3, h4⟩, ⟨⟨by rw [Nat.one_mul]; omega, ?_, fun i hi j hj => ?_⟩, told⟩, ?_, h2.symm, rfl, by show (gpOs (gr F) 1 F.os).length = F.on; rw [eos, ho], ecs, eos⟩
    · show F.P * ((1 : Nat) : Int) ≤ _
      omega
    · obtain rfl : j = 0 := by omega
      rw [show (i : Int) * ((1 : Nat) : Int) + ((0 : Nat) : Int) = (i : Int) by omega, at0 i (by omega)]
      exact fit_good (rt.core _ (List.getElem_mem _))
    · show F.P * ((1 : Nat) : Int) = F.P
      omega

theorem gp_ans {F : Fv} {m a k n₀ : Nat} {e : Ending} {w' : World} (h : GpOut F m a k n₀ e w') : ∃ (G : Fv) (kw : Int), e = .returned (.tuple #[G.v, .int .i64 kw]) ∧ Hid (G.At w') ∧ ((kw = 0 ∧ Hid (GpG F m a k G)) ∨ kw ≠ 0) := by
  rcases h with ⟨rfl, _⟩ | ⟨rfl, _⟩ | ⟨h1, h2, K, G, ⟨e1, e2, e3, e4, e5, e6⟩, h3, h4, h5, rfl⟩
  · exact ⟨Fv.zero, 3, rfl, Lib.hid (Fv.zero_at _), .inr (by decide)⟩
  · exact ⟨Fv.zero, 20, rfl, Lib.hid (Fv.zero_at _), .inr (by decide)⟩
  · exact ⟨G, 0, rfl, Lib.hid h5.at_, .inl ⟨rfl, Lib.hid ⟨h1, h2, rt_like h3 e1.symm e2.symm e3.symm e4.symm e5.symm e6.symm, can_like h4 e1 e2 e5 e6⟩⟩⟩
/-- What is shifted, when all went well. -/
structure ShG (F : Fv) (m : Int) (G : Fv) : Prop where
  ex : ∃ K, ShK F K m ∧ K.Rt ∧ IsCan K G
theorem sh_ans {F : Fv} {m : Int} {n₀ : Nat} {e : Ending} {w' : World} (h : ShOut F m n₀ e w') : ∃ (G : Fv) (kw : Int), e = .returned (.tuple #[G.v, .int .i64 kw]) ∧ Hid (G.At w') ∧ ((kw = 0 ∧ Hid (ShG F m G)) ∨ kw ≠ 0) := by
  rcases h with ⟨_, rfl⟩ | ⟨_, _, rfl⟩ | ⟨_, K, G, h1, h2, h3, h4, rfl⟩
  · exact ⟨Fv.zero, 2, rfl, Lib.hid (Fv.zero_at _), .inr (by decide)⟩
  · exact ⟨Fv.zero, 20, rfl, Lib.hid (Fv.zero_at _), .inr (by decide)⟩
  · exact ⟨G, 0, rfl, Lib.hid h4.at_, .inl ⟨rfl, Lib.hid ⟨K, h1, h2, h3⟩⟩⟩
/-- Group's answer, its parts named. -/
def GpTo (F : Fv) (m a k : Nat) (W : World) (e : Ending) (w' : World) : Prop := (∃ P N co cn cc oo on oc cs os kw, e = .returned (.tuple #[.agg #[.int .i64 P, .int .i64 N, .slice co cn cc, .slice oo on oc], .int .i64 kw]) ∧ Hid (Fv.At ⟨P, N, co, cn, cc, oo, on, oc, cs, os⟩ w') ∧ ((kw = 0 ∧ Hid (GpG F m a k ⟨P, N, co, cn, cc, oo, on, oc, cs, os⟩)) ∨ kw ≠ 0)) ∧ Hid (Below W.heap.size W w')
def ShTo (F : Fv) (m : Int) (W : World) (e : Ending) (w' : World) : Prop := (∃ P N co cn cc oo on oc cs os kw, e = .returned (.tuple #[.agg #[.int .i64 P, .int .i64 N, .slice co cn cc, .slice oo on oc], .int .i64 kw]) ∧ Hid (Fv.At ⟨P, N, co, cn, cc, oo, on, oc, cs, os⟩ w') ∧ ((kw = 0 ∧ Hid (ShG F m ⟨P, N, co, cn, cc, oo, on, oc, cs, os⟩)) ∨ kw ≠ 0)) ∧ Hid (Below W.heap.size W w')
theorem group_to (F : Fv) (m a k : Nat) (w : World) (hF : F.At w) (rt : F.Rt) (hf : F.Few) (hm1 : 1 ≤ m) (hm2 : m ≤ 6000) (hp : Pa F m a k) : Calls Try.prog 8 #[F.v, .int .i64 (m : Int)] w fun e w' => GpTo F m a k w e w' :=
  (group_any F m a k w hF rt (hf.mid hF.core.len hF.odd.len) hf.1 hf.2.1 hf.2.2.1 hf.2.2.2 hm1 hm2 hp).mono (by
    rintro e w' ⟨h, q⟩
    obtain ⟨G, kw, rfl, a, b⟩ := gp_ans h
    exact ⟨⟨_, _, _, _, _, _, _, _, _, _, kw, rfl, a, b⟩, q⟩)
theorem shift_to (F : Fv) (m : Int) (w : World) (hF : F.At w) (rt : F.Rt) (hf : F.Few) (hm1 : -9223372036854775808 ≤ m) (hm2 : m ≤ 9223372036854775807) : Calls Try.prog 12 #[F.v, .int .i64 m] w fun e w' => ShTo F m w e w' :=
  (shift_few F m w hF hf rt hm1 hm2).mono (by
    rintro e w' ⟨h, q⟩
    obtain ⟨G, kw, rfl, a, b⟩ := sh_ans h
    exact ⟨⟨_, _, _, _, _, _, _, _, _, _, kw, rfl, a, b⟩, q⟩)
theorem one_to (F : Fv) (a k : Nat) (w : World) (hF : F.At w) (rt : F.Rt) (hs : F.Small) (hp : Pa F 1 a k) (ok : GrpOK F 1 a k) (h : (gpF F 1 a k).P = F.P ∧ (gpF F 1 a k).N = F.N ∧ (gpF F 1 a k).cn = F.cn ∧ (gpF F 1 a k).on = F.on ∧ (gpF F 1 a k).cs = F.cs ∧ (gpF F 1 a k).os = F.os) : Calls Try.prog 8 #[F.v, .int .i64 1] w fun e w' => ∃ P N co cn cc oo on oc cs os, e = .returned (.tuple #[.agg #[.int .i64 P, .int .i64 N, .slice co cn cc, .slice oo on oc], .int .i64 0]) ∧ Hid (Fv.At ⟨P, N, co, cn, cc, oo, on, oc, cs, os⟩ w') ∧ Hid (GpG F 1 a k ⟨P, N, co, cn, cc, oo, on, oc, cs, os⟩) ∧ Hid (Below w.heap.size w w') := by
  obtain ⟨o1, o2, o3, o4, o5, o6⟩ := h
  have sz : (gpF F 1 a k).size ≤ 60000 := by
    have := hs.2.2
    unfold Fv.size at this ⊢
    rw [o5, o6]; omega
  have rk : (gpF F 1 a k).Rt := rt_like rt o1 o2 o3 o4 o5 o6
  have hf := hs.few
  refine (group_any F 1 a k w hF rt hs.mid hf.1 hf.2.1 hf.2.2.1 hf.2.2.2 (by decide) (by decide) hp).mono ?_
  rintro e w' ⟨h, q⟩
  obtain ⟨G, c, d, rfl⟩ := gp_third h ok _ rfl sz rk
  exact ⟨_, _, _, _, _, _, _, _, _, _, rfl, Lib.hid d.at_, Lib.hid ⟨ok, sz, rk, c⟩, q⟩
/-- What is grouped, or shifted, is a form of few sets, and right. -/
theorem gpg_few {F G : Fv} {m a k : Nat} {W : World} (g : GpG F m a k G) (hp : Pa F m a k) (hs : F.Small) (ho : F.os.length = F.on) (hm : m ≤ 12) (hG : G.At W) : G.Few ∧ G.Rt := by
  obtain ⟨f, l⟩ := gp_full hp
  exact ⟨can_few g.can f (gp_few hp hs ho hm) l rfl hG.odd.len, can_rt g.can g.rt l⟩
theorem shk_len {F K : Fv} {m : Int} (s : ShK F K m) (hl : F.cs.length = F.cn) (ho : F.os.length = F.on) : K.cs.length = K.cn ∧ K.os.length = K.on := ⟨by rw [s.1.2.2.1, shCs_len, hl, s.2.1], by rw [s.1.2.2.2, s.2.2]; show (List.map _ _).length = _; rw [List.length_map, ho]⟩
theorem shg_few {F G : Fv} {m : Int} {W : World} (g : ShG F m G) (hf : F.Few) (hl : F.cs.length = F.cn) (ho : F.os.length = F.on) (rt : F.Rt) (hG : G.At W) : G.Few ∧ G.Rt := by
  obtain ⟨K, s, r, c⟩ := g.ex
  obtain ⟨l1, l2⟩ := shk_len s hl ho
  have f := sh_full2 s (full_of rt hl)
  have h := sh_few s hf hl ho
  exact ⟨can_few c f ⟨by rw [s.2.1]; exact hf.1, by rw [s.2.2]; exact hf.2.1, h.2.1, h.2.2⟩ l1 l2 hG.odd.len, can_rt c r l1⟩
theorem one_same {F G : Fv} {a k : Nat} (g : GpG F 1 a k G) (e1 : (gpF F 1 a k).P = F.P) (e2 : (gpF F 1 a k).N = F.N) (e5 : (gpF F 1 a k).cs = F.cs) (e6 : (gpF F 1 a k).os = F.os) {M : Fv} (c : IsCan F M) : SameF G M := isCan_unique (can_like g.can e1 e2 e5 e6) c
theorem two_sameG {F X Y Z : Fv} {a b a1 k1 a2 k2 a3 k3 : Nat} {W : World} (gx : GpG F a a1 k1 X) (px : Pa F a a1 k1) (gy : GpG X b a2 k2 Y) (py : Pa X b a2 k2) (gz : GpG F (a * b) a3 k3 Z) (pz : Pa F (a * b) a3 k3) (ha : 0 < a) (hb : 0 < b) (lf : F.cs.length = F.cn) (hx : X.At W) : SameF Y Z := two_same gx px gy py gz pz ha hb lf hx.core.len
theorem move_sameG {F X P Q R : Fv} {a a1 k1 a2 k2 : Nat} {c : Int} {W V : World} (gx : GpG F a a1 k1 X) (px : Pa F a a1 k1) (ha : 0 < a) (lf : F.cs.length = F.cn) (lo : F.os.length = F.on) (rf : F.Rt) (hx : X.At W) (sp : ShG X c P) (sq : ShG F ((a : Int) * c) Q) (hq : Q.At V) (gr_ : GpG Q a a2 k2 R) (pr : Pa Q a a2 k2) : SameF P R := by
  obtain ⟨K, s1, s2, s3⟩ := sp.ex
  obtain ⟨L, q1, q2, q3⟩ := sq.ex
  exact move_same gx px ha lf rf hx.core.len s1 s3 q1 q3 q2 (shk_len q1 lf lo).1 hq.core.len gr_ pr
end Go.Proofs.Ytmjapbjjfhmohaa
