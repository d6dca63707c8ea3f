/- E22, E23 in one. -/
import Derived.Test.YtjhbgedobkpdhaaE18
import Derived.Maps.Own
import Derived.Maps.OwnOps
import Derived.Maps.OwnSet
import Derived.Maps.Views
import Derived.Laws.OwnMore
import Derived.Laws.AppendOwnNone
import Derived.Test.YtjhbgedobkpdhaaSp6
import Derived.StillTailTactics
namespace Go.Proofs.Ytjhbgedobkpdhaa
set_option linter.unusedVariables false
set_option linter.unusedSimpArgs false
open Go.ChangeShapes Go.WideShapes Go.ChangeAt Go.RowKit
theorem meets_few {F : Fv} (rt : F.Rt) (ok : F.Ok) (hl : F.cs.length = F.cn) {hi : Int} : ∀ (ys : List Int) (lo : Int), ys.Pairwise (· < ·) → (∀ i ∈ ys, Ex F i ∧ ∃ t, mem (gr F i) t ∧ lo ≤ t ∧ t ≤ hi) → ys.length ≤ (hi - lo + 1).toNat
  | [], _, _, _ => Nat.zero_le _
  | y :: r, lo, hs, h => by
    rw [List.pairwise_cons] at hs
    obtain ⟨ey, t, mt, t1, t2⟩ := h y (List.mem_cons_self ..)
    have q := meets_few rt ok hl r (t + 1) hs.2 (fun i hi' => by
      obtain ⟨ei, u, mu, u1, u2⟩ := h i (List.mem_cons_of_mem _ hi')
      have a := gr_mem_hull ok ey mt
      have b := gr_mem_hull ok ei mu
      have c := ex_order rt ok hl ey.1 ei.1 (hs.1 i hi') ey.2.2 ei.2.2
      exact ⟨ei, u, mu, by omega, u2⟩)
    simp only [List.length_cons]
    omega
theorem over_near {F : Fv} (rt : F.Rt) (ok : F.Ok) (hl : F.cs.length = F.cn) {l : List Sp} {xs : List Int} {k : Int} (g : Good l) (b1 : -400 ≤ hullA l) (b2 : hullB l ≤ 400) (h : OverIs F l xs k) : k = 0 ∧ xs.Pairwise (· < ·) ∧ (∀ i, i ∈ xs ↔ Ex F i ∧ MeetL F l i) ∧ xs.length ≤ 801 := by
  have few : ∀ ys : List Int, ys.Pairwise (· < ·) → (∀ i ∈ ys, Ex F i ∧ HMeet F l i) → ys.length ≤ 801 := fun ys h1 h2 => by
    have := meets_few rt ok hl (hi := 400) ys (-400) h1 (fun i hi => by
      obtain ⟨e, t, m, a, b⟩ := h2 i hi
      exact ⟨e, t, m, by omega, by omega⟩)
    omega
  rcases h with ⟨_, _, n⟩ | ⟨_, e, a, b, _⟩ | ⟨_, _, _, ys, y1, y2, y3⟩
  · exact absurd g n
  · exact ⟨e, a, b, few xs a (fun i hi => ⟨((b i).1 hi).1, meet_hmeet g ((b i).1 hi).2⟩)⟩
  · have := few ys y1 y3
    omega
theorem hull_part {a b : List Sp} (ga : Good a) (gb : Good b) (h : ∀ t, mem a t → mem b t) (b1 : -400 ≤ hullA b) (b2 : hullB b ≤ 400) : -400 ≤ hullA a ∧ hullB a ≤ 400 := by
  by_cases e : a = []
  · subst e; exact ⟨(show (-400 : Int) ≤ 0 by decide), (show (0 : Int) ≤ 400 by decide)⟩
  · obtain ⟨m1, m2⟩ := hull_mem ga e
    have := mem_hull gb (h _ m1)
    have := mem_hull gb (h _ m2.1)
    omega
theorem nodup_len : ∀ {S z : List Int}, S.Nodup → (∀ x ∈ S, x ∈ z) → S.length ≤ z.length
  | [], _, _, _ => Nat.zero_le _
  | s :: S, z, hs, h => by
    rw [List.nodup_cons] at hs
    have hz := h s (List.mem_cons_self ..)
    have q := nodup_len (z := z.erase s) hs.2 (fun x hx => (List.mem_erase_of_ne (fun e => hs.1 (by rw [← e]; exact hx))).2 (h x (List.mem_cons_of_mem _ hx)))
    rw [List.length_erase_of_mem hz] at q
    have := List.length_pos_of_mem hz
    simp only [List.length_cons]
    omega
theorem inc_nodup {z : List Int} (h : z.Pairwise (· < ·)) : z.Nodup := h.imp (fun q => by omega)
open Go.Maps in
/-- A map that counts what a list holds. -/
structure Cnts (D : DataW Unit) (ls : List Int) : Prop where
  tidy : Tidy D
  at_ : ∀ i : Int, D.atKey (.int .i64 i) (.lit (.int .i64 0)) = .lit (.int .i64 (ls.count i : Int))
  has_ : ∀ i : Int, has D (.int .i64 i) = decide (i ∈ ls)
  size : ∃ S : List Int, S.Nodup ∧ (∀ i, i ∈ S ↔ i ∈ ls) ∧ Maps.size D = S.length
open Go.Maps in
theorem cnts_nil : Cnts (.map []) [] := ⟨tidy_empty, fun i => rfl, fun i => rfl, [], List.nodup_nil, fun i => Iff.rfl, rfl⟩
theorem key_int (x : Int) (h1 : -9223372036854775808 ≤ x) (h2 : x ≤ 9223372036854775807) : WideAt.IsKeyLit (.int .i64 x) := by first | trivial | (unfold WideAt.IsKeyLit; simp) | exact ⟨_, rfl⟩
theorem lit_ne {x i : Int} (h : i ≠ x) : (Lit.int .i64 i) ≠ .int .i64 x := fun e => h (by cases e; rfl)
open Go.Maps in
theorem cnts_put {D : DataW Unit} {ls : List Int} (h : Cnts D ls) (x : Int) (h1 : -9223372036854775808 ≤ x) (h2 : x ≤ 9223372036854775807) : Cnts (D.put (.int .i64 x) (.lit (.int .i64 ((ls.count x : Int) + 1)))) (ls ++ [x]) := by
  have hk := key_int x h1 h2
  refine ⟨h.tidy.put hk _, fun i => ?_, fun i => ?_, ?_⟩
  · by_cases e : i = x
    · subst e
      rw [atKey_put_same h.tidy.isMap hk]
      simp [List.count_append]
    · rw [atKey_put_other (lit_ne e), h.at_ i]
      have e2 : List.count i [x] = 0 := List.count_eq_zero.2 (by simp [e])
      rw [List.count_append, e2, Nat.add_zero]
  · by_cases e : i = x
    · subst e
      rw [has_put_same h.tidy.isMap hk]; simp
    · rw [has_put_other (lit_ne e), h.has_ i]
      simp [e]
  · obtain ⟨S, s1, s2, s3⟩ := h.size
    rw [size_put h.tidy, h.has_ x]
    by_cases e : x ∈ ls
    · refine ⟨S, s1, fun i => ?_, ?_⟩
      · rw [s2 i, List.mem_append, List.mem_singleton]
        exact ⟨.inl, fun q => q.elim id (fun z => z ▸ e)⟩
      · simp [e, s3]
    · refine ⟨x :: S, List.nodup_cons.2 ⟨fun q => e ((s2 x).1 q), s1⟩, fun i => ?_, ?_⟩
      · rw [List.mem_cons, s2 i, List.mem_append, List.mem_singleton]
        exact ⟨fun q => q.elim .inr .inl, fun q => q.elim .inr .inl⟩
      · simp [e, s3]
theorem cnts_len {D : DataW Unit} {ls z : List Int} (h : Cnts D ls) (hz : z.Pairwise (· < ·)) (hm : ∀ i, i ∈ z ↔ i ∈ ls) : Maps.size D = z.length := by
  obtain ⟨S, s1, s2, s3⟩ := h.size
  have a := nodup_len (z := z) s1 (fun x hx => (hm x).2 ((s2 x).1 hx))
  have b := nodup_len (z := S) (inc_nodup hz) (fun x hx => (s2 x).2 ((hm x).1 hx))
  omega
theorem om_keep {P : Program} {k b n : Nat} {R : Value → Option (DataW Unit × List MemPlace)} {D : DataW Unit} {w w' : World} (h : w.ownsMap P k R b n D) (q : Below w.heap.size w w') : w'.ownsMap P k R b n D := by
  have lt := h.lt
  obtain ⟨es, clock, hb, F, hs, hD⟩ := h
  exact ⟨es, clock, (q.block b lt).trans hb, F, hs, hD⟩
theorem between_none {z : List Int} (hz : z.Pairwise (· < ·)) {n : Nat} (h0 : 0 < n) (h : n < z.length) {k : Int} (a : z[n - 1] < k) (b : k < z[n]) : k ∉ z := fun hk => by
  obtain ⟨m, hm, rfl⟩ := List.getElem_of_mem hk
  rw [List.pairwise_iff_getElem] at hz
  rcases Nat.lt_or_ge m n with q | q
  · rcases Nat.lt_or_ge m (n - 1) with r | r
    · have := hz m (n - 1) hm (by omega) r; omega
    · obtain rfl : m = n - 1 := by omega
      omega
  · rcases Nat.lt_or_ge n m with r | r
    · have := hz n m h hm r; omega
    · obtain rfl : m = n := by omega
      omega
theorem inc_step {z : List Int} (hz : z.Pairwise (· < ·)) {n : Nat} (h0 : 0 < n) (h : n < z.length) : z[n - 1] < z[n] := by
  rw [List.pairwise_iff_getElem] at hz
  exact hz (n - 1) n (by omega) h (by omega)
theorem law3 : Maps.Keyed Try.prog 3 := Maps.int_keyed Try.underlying3
theorem zero3 (w : World) : (zeroValue 3).run Try.prog w = .ok (.int .i64 0) w := by kernel_rfl
theorem below_grown {w w' : World} {B e s n : Nat} {v : Value} {xs : List Value} (h : w.ownsRow B e s v n xs) (hB : B ≤ w.heap.size) (g : w.grownBy w' v.ownBlock) : Below B w w' :=
  (Below.refl B w).grown g hB (fun k hk => (h.lt k hk).1)
theorem iz_cells {w : World} {ad : Addr} {n c : Nat} {ys : List Int} (h : IzAt w (some ad) n c ys) : ∀ j u, (ints ys)[j]? = some u → w.cell? (ad.add j) = some u := by
  intro j u hu
  have hj : j < ys.length := by have := (List.getElem?_eq_some_iff.1 hu).1; simpa [ints] using this
  obtain ⟨b, p, e, hc⟩ := h.here (by have := h.len; omega)
  cases e
  rw [add_off, hc j hj]
  simp [ints, hj] at hu
  rw [hu]
theorem wpList_app_iz {w : World} {ops : Array Oper} {rest : List Oper} {o : Oper} {a : Act} {Q : Exit → Act → World → Prop} (hgd : o.guard = none) (s x : Operand) (ho : o.op = .call { callee := .builtin .append, args := #[s, x], argTypes := #[35, 35] })
    (base : Nat) (v : Value) (xs ys : List Int) (hs : a.eval s = v) (hown : w.ownsRow base 3 1 v xs.length (ints xs)) (u : Value) (B2 : Nat) (hx : a.eval x = u) (hy : w.ownsRow B2 3 1 u ys.length (ints ys)) (hn : xs.length + ys.length ≤ 1000000) (hbase : base ≤ w.heap.size)
    (h : ∀ v' w', w'.ownsRow base 3 1 v' (xs ++ ys).length (ints (xs ++ ys)) → Below base w w' → wpList Try.prog ops Q rest (a.put o.dst v') w') : wpList Try.prog ops Q (o :: rest) a w := by
  obtain ⟨i0, hi, hz0, hz1, hz2⟩ := info_parts info3
  have he : ints (xs ++ ys) = ints xs ++ ints ys := by simp [ints]
  obtain ⟨ao, c, e, hz⟩ := own_iz hy
  have hb : ao = none → c = 0 ∧ ys.length = 0 := fun q => by
    rcases hy.2 with ⟨q1, q2⟩ | ⟨g, cap, cur, hv, _⟩
    · rw [e] at q1; simp only [Value.slice.injEq] at q1; exact ⟨q1.2.2, q1.2.1⟩
    · rw [e] at hv; simp only [Value.slice.injEq] at hv; rw [q] at hv; exact absurd hv.1 (by simp)
  subst e
  cases ao with
  | some ad =>
    exact wpList_append_own w hgd s x 35 ho base 3 i0 (.int .i64 0) 1 8 Try.underlying35 hi hz0 hz1 hz2 rfl (by decide) v xs.length (ints xs) hs hown ad ys.length c (ints ys) hx (by simp [ints]) (iz_cells hz) (by intro u hu; simp [ints] at hu; obtain ⟨z, _, rfl⟩ := hu; rfl) (by unfold maxLen; omega) (by omega) hbase
      (fun v' w' h1 h2 _ => h v' w' (by rw [he, List.length_append]; exact h1) (below_grown hown hbase h2))
  | none =>
    obtain ⟨rfl, hl⟩ := hb rfl
    obtain rfl : ys = [] := List.eq_nil_of_length_eq_zero hl
    exact wpList_append_own_none hgd s x 35 ho base 3 i0 1 Try.underlying35 hi v xs.length (ints xs) hs hown hx (by have := h v w (by simpa using hown) (Below.refl _ _); exact this)
theorem bad21 : ¬ Good [(2, 1)] := fun h => by simp [Good, Rt] at h
theorem make8_any (ao : Option Addr) (n c : Nat) (l : List Sp) (w : World) (hl : SpAt w ao n c l) (hn : n ≤ 8) : Calls Try.prog 18 #[.slice ao n c] w fun e w' => ∃ (ao' : Option Addr) (n' c' : Nat) (r : List Sp) (k : Int), e = .returned (.tuple #[.slice ao' n' c', .int .i64 k]) ∧ Hid (Good r ∧ n' ≤ 8 ∧ SpAt w' ao' n' c' r) ∧ Hid (Below w.heap.size w w') :=
  (make_all ao n c l (by omega) w hl).mono (by
    rintro e w' ⟨v, k, rfl, hb, hm⟩
    rcases hm with ⟨_, _, rfl⟩ | ⟨_, _, _, rfl⟩ | ⟨_, _, _, r, h1, _, h3, h4⟩
    · exact ⟨none, 0, 0, [], k, rfl, Lib.hid ⟨trivial, by omega, SpAt.nil _⟩, Lib.hid hb⟩
    · exact ⟨none, 0, 0, [], k, rfl, Lib.hid ⟨trivial, by omega, SpAt.nil _⟩, Lib.hid hb⟩
    · obtain ⟨ao', c', e, hs⟩ := own_sp rfl h4
      subst e
      exact ⟨ao', _, c', r, k, rfl, Lib.hid ⟨h1, by have := hl.len; omega, hs⟩, Lib.hid hb⟩)
theorem union8_any (ao bo : Option Addr) (n c m d : Nat) (a b : List Sp) (w : World) (ga : Good a) (gb : Good b) (hn : n ≤ 8) (hm : m ≤ 8) (ha : SpAt w ao n c a) (hb : SpAt w bo m d b) : Calls Try.prog 19 #[.slice ao n c, .slice bo m d] w fun e w' => ∃ (ao' : Option Addr) (n' c' : Nat) (r : List Sp), e = .returned (.slice ao' n' c') ∧ Hid (Good r ∧ n' ≤ 32 ∧ SpAt w' ao' n' c' r ∧ ∀ t, mem r t ↔ mem a t ∨ mem b t) ∧ Hid (Below w.heap.size w w') :=
  (union_any ao bo n c m d a b ga gb (by omega) (by omega) w ha hb).mono (by
    rintro e w' ⟨v, r, rfl, h1, h2, h3, h4, h5⟩
    obtain ⟨ao', c', e, hs⟩ := own_sp rfl h4
    subst e
    exact ⟨ao', _, c', r, rfl, Lib.hid ⟨h1, by omega, hs, h2⟩, Lib.hid h5⟩)
def MkOut (F : Fv) (w : World) (b : Nat) (s7 s8 : Value) (wx : World) : Prop := ∃ (ao : Option Addr) (n c : Nat) (r : List Sp) (k : Int), s7 = .slice ao n c ∧ s8 = .int .i64 k ∧ Hid (Good r ∧ n ≤ 8 ∧ SpAt wx ao n c r) ∧ Hid (Fbox F w wx b)
/-- What the second loop looks for. -/
def Nx (F : Fv) (p : Int) (k : Int) (ok : Bool) : Prop := ok = true → InR k ∧ p < k ∧ gr F k ≠ []
theorem row_at {w : World} {B n c : Nat} {ao : Option Addr} {xs : List Int} (h : w.ownsRow B 3 1 (.slice ao n c) n (ints xs)) (hl : xs.length = n) : IzAt w ao n c xs := by
  subst hl
  obtain ⟨ao', c', e, hz⟩ := own_iz h
  cases e
  exact hz
theorem row_ne {w : World} {B e s n q : Nat} {v : Value} {xs : List Value} (h : w.ownsRow B e s v n xs) (hq : q < B) : v.ownBlock = none ∨ v.ownBlock ≠ some q := by
  cases h2 : v.ownBlock with
  | none => exact .inl rfl
  | some k => exact .inr (fun z => by cases z; have := (h.lt _ h2).1; omega)
theorem hull_empty {n : Nat} {w : World} {ao : Option Addr} {c : Nat} {U : List Sp} (h : SpAt w ao n c U) (z : ¬ 0 < n) : hullA U = 0 ∧ hullB U = 0 := by
  obtain rfl : U = [] := List.eq_nil_of_length_eq_zero (by have := h.len; omega)
  exact ⟨rfl, rfl⟩
set_option maxRecDepth 8000 in
set_option maxHeartbeats 4000000 in
theorem over_walk (F : Fv) (lo : Option Addr) (ln lc : Nat) (l : List Sp) (mo : Option Addr) (mn mc : Nat) (m : List Sp) (w : World) (hF : F.At w) (hL : SpAt w lo ln lc l) (hM : SpAt w mo mn mc m) : Calls Try.prog 6 #[F.v, .slice lo ln lc, .slice mo mn mc] w fun e w' => e = .returned (.bool true) ∧ Below w.heap.size w w' := by
  have HAW := Lib.hid (fun W => awake_any W)
  obtain ⟨r, hr⟩ : ∃ r : Bool, r = true ↔ F.Small ∧ F.Rt := by classical exact ⟨decide _, decide_eq_true_iff⟩
  have HRI := Lib.hid (fun W h => right_any2 F W h r hr)
  have HRT : Hid (r = true → F.Rt ∧ F.Ok ∧ F.cn ≤ 10000) := Lib.hid (fun q => ⟨(hr.1 q).2, (hr.1 q).2.ok (hr.1 q).1, Nat.le_trans (hr.1 q).1.1 (by decide)⟩)
  have HLN : Hid (F.cs.length = F.cn) := Lib.hid hF.core.len
  clear hr
  have HGE : Hid (r = true → ∀ i W, Fv.At F W → Calls Try.prog 10 #[F.v, .int .i64 i] W fun e w' => ∃ (ao : Option Addr) (n c : Nat) (L : List Sp) (k : Int), e = .returned (.tuple #[.slice ao n c, .int .i64 k]) ∧ Hid (Below W.heap.size W w') ∧ Hid (SpAt w' ao n c L) ∧ ((k = 0 ∧ Hid (Told i (gr F i) ∧ L = gr F i)) ∨ (k = 20 ∧ n = 0 ∧ Hid (¬ Told i (gr F i))))) := Lib.hid (fun q i W h => get_any2 F i W h (HRT.out q).2.1 (gr F i) rfl)
  have HUP : Hid (r = true → ∀ i W, -9223372036854775808 ≤ i → i ≤ 9223372036854775807 → Fv.At F W → Calls Try.prog 17 #[F.v, .int .i64 i] W fun e w' => IbOut (UpIs F i) e ∧ Hid (Below W.heap.size W w')) := Lib.hid (fun q i W i1 i2 h => behind2_any F i W h (HRT.out q).2.1 i1 i2)
  have HLS := Lib.hid hL
  have HMS := Lib.hid hM
  have hl1 : ln ≤ lc := hL.le
  have hl2 : lc ≤ 9223372036854775807 := hL.top
  have hm1 : mn ≤ mc := hM.le
  have hm2 : mc ≤ 9223372036854775807 := hM.top
  clear hL hM
  have CMK := Lib.hid make8_any
  have CUN := Lib.hid union8_any
  obtain ⟨P, N, co, cn, cc, oo, on, oc, cs, os⟩ := F
  have LC : Hid (cs.length = cn) := Lib.hid hF.core.len
  have LO : Hid (os.length = on) := Lib.hid hF.odd.len
  have hmc : cn ≤ 9223372036854775807 := Nat.le_trans hF.core.le hF.core.top
  have hmo : on ≤ 9223372036854775807 := Nat.le_trans hF.odd.le hF.odd.top
  obtain ⟨b, hb⟩ : ∃ b, w.heap.size = b := ⟨_, rfl⟩
  obtain ⟨wb, hwb⟩ : ∃ wb, w.alloc (.cells #[.int .i64 P, .int .i64 N, .slice co cn cc, .slice oo on oc] 25) = wb := ⟨_, rfl⟩
  have HBB : Hid (Fbox ⟨P, N, co, cn, cc, oo, on, oc, cs, os⟩ w wb b) := Lib.hid (by rw [← hwb, ← hb]; exact fbox_new hF)
  clear hF
  show Calls Try.prog 6 #[.agg #[.int .i64 P, .int .i64 N, .slice co cn cc, .slice oo on oc], .slice lo ln lc, .slice mo mn mc] w _
  go_enter Try.func6, Try.ntmps6
  go_upto_region 1 with fail
  clear hwb hb
  have HRI : Hid (∀ W, Fv.At ⟨P, N, co, cn, cc, oo, on, oc, cs, os⟩ W → Calls Try.prog 8 #[.agg #[.int .i64 P, .int .i64 N, .slice co cn cc, .slice oo on oc]] W fun e w' => e = .returned (.bool r) ∧ Below W.heap.size W w') := HRI
  have HRT : Hid (r = true → Fv.Rt ⟨P, N, co, cn, cc, oo, on, oc, cs, os⟩ ∧ Fv.Ok ⟨P, N, co, cn, cc, oo, on, oc, cs, os⟩ ∧ cn ≤ 10000) := HRT
  have HLN : Hid ((Fv.cs ⟨P, N, co, cn, cc, oo, on, oc, cs, os⟩).length = Fv.cn ⟨P, N, co, cn, cc, oo, on, oc, cs, os⟩) := HLN
  have HGE : Hid (r = true → ∀ i W, Fv.At ⟨P, N, co, cn, cc, oo, on, oc, cs, os⟩ W → Calls Try.prog 10 #[.agg #[.int .i64 P, .int .i64 N, .slice co cn cc, .slice oo on oc], .int .i64 i] W fun e w' => ∃ (ao : Option Addr) (n c : Nat) (L : List Sp) (k : Int), e = .returned (.tuple #[.slice ao n c, .int .i64 k]) ∧ Hid (Below W.heap.size W w') ∧ Hid (SpAt w' ao n c L) ∧ ((k = 0 ∧ Hid (Told i (gr ⟨P, N, co, cn, cc, oo, on, oc, cs, os⟩ i) ∧ L = gr ⟨P, N, co, cn, cc, oo, on, oc, cs, os⟩ i)) ∨ (k = 20 ∧ n = 0 ∧ Hid (¬ Told i (gr ⟨P, N, co, cn, cc, oo, on, oc, cs, os⟩ i))))) := HGE
  have HUP : Hid (r = true → ∀ i W, -9223372036854775808 ≤ i → i ≤ 9223372036854775807 → Fv.At ⟨P, N, co, cn, cc, oo, on, oc, cs, os⟩ W → Calls Try.prog 17 #[.agg #[.int .i64 P, .int .i64 N, .slice co cn cc, .slice oo on oc], .int .i64 i] W fun e w' => IbOut (UpIs ⟨P, N, co, cn, cc, oo, on, oc, cs, os⟩ i) e ∧ Hid (Below W.heap.size W w')) := HUP
  have COV : Hid (r = true → ∀ (lo : Option Addr) (ln lc : Nat) (l : List Sp) (W : World), Fv.At ⟨P, N, co, cn, cc, oo, on, oc, cs, os⟩ W → SpAt W lo ln lc l → ln ≤ 1000000 → Calls Try.prog 21 #[.agg #[.int .i64 P, .int .i64 N, .slice co cn cc, .slice oo on oc], .slice lo ln lc] W fun e w' => OverOut ⟨P, N, co, cn, cc, oo, on, oc, cs, os⟩ l W.heap.size e w' ∧ Hid (Below W.heap.size W w')) := Lib.hid (fun q lo ln lc l W h1 h2 h3 => over_any ⟨P, N, co, cn, cc, oo, on, oc, cs, os⟩ lo ln lc l W h1 (HRT.out q).1 (HRT.out q).2.1 (HRT.out q).2.2 h2 h3)
  go_cut [7, 8] from 33 to 41 (fun s7 s8 wx => MkOut ⟨P, N, co, cn, cc, oo, on, oc, cs, os⟩ w b s7 s8 wx)
  case first =>
    by_cases h8 : ln ≤ 8
    · have t1 : min (ln : Int) 8 = (ln : Int) := by omega
      have t2 : ¬ (8 : Int) < (ln : Int) := by omega
      have h0 : (0 : Int) ≤ (ln : Int) := by omega
      have h2 : (ln : Int) ≤ (lc : Int) := by omega
      cases lo with
      | none =>
        obtain ⟨rfl, rfl⟩ := HLS.out.bare rfl
        have t3 : min (0 : Int) 8 = 0 := by omega
        have CM := Lib.hid (CMK.out none 0 0 l _ (HLS.out.keep HBB.out.bw) (by omega))
        go_wp2_with (go_at_call 18; with_reducible refine CM.out.mono ?_; rintro e w1 ⟨ao, n1, c1, r1, k1, rfl, hm, q⟩)
        go_meet
        case rel => exact ⟨ao, n1, c1, r1, k1, rfl, rfl, hm, Lib.hid (HBB.out.keep q.out)⟩
      | some a =>
        have CM := Lib.hid (CMK.out (some a) ln lc l _ (HLS.out.keep HBB.out.bw) (by omega))
        go_wp2_with (go_at_call 18; with_reducible refine CM.out.mono ?_; rintro e w1 ⟨ao, n1, c1, r1, k1, rfl, hm, q⟩)
        go_meet
        case rel => exact ⟨ao, n1, c1, r1, k1, rfl, rfl, hm, Lib.hid (HBB.out.keep q.out)⟩
    · have t1 : min (ln : Int) 8 = 8 := by omega
      have t2 : (8 : Int) < (ln : Int) := by omega
      have h2 : (8 : Int) ≤ (lc : Int) := by omega
      obtain ⟨b', p', rfl, _⟩ := HLS.out.here (by omega)
      have CM := Lib.hid (CMK.out (some ⟨b', p', none⟩) 8 lc (l.take 8) _ ((HLS.out.keep HBB.out.bw).take 8 (by omega)) (by omega))
      go_wp2_with (go_at_call 18; with_reducible refine CM.out.mono ?_; rintro e w1 ⟨ao, n1, c1, r1, k1, rfl, hm, q⟩)
      go_meet
      case rel => exact ⟨ao, n1, c1, r1, k1, rfl, rfl, hm, Lib.hid (HBB.out.keep q.out)⟩
  case rest =>
  obtain ⟨a1, n1, c1, A, k1, rfl, rfl, HA, HBB⟩ := hcut
  obtain ⟨v1, hv1⟩ : ∃ v : World, v = wc := ⟨_, rfl⟩
  subst hv1
  go_upto_region 2 with fail
  go_cut [9, 10] from 42 to 50 (fun s9 s10 wx => MkOut ⟨P, N, co, cn, cc, oo, on, oc, cs, os⟩ w b s9 s10 wx ∧ Hid (SpAt wx a1 n1 c1 A))
  case first =>
    by_cases h8 : mn ≤ 8
    · have t1 : min (mn : Int) 8 = (mn : Int) := by omega
      have t2 : ¬ (8 : Int) < (mn : Int) := by omega
      have h0 : (0 : Int) ≤ (mn : Int) := by omega
      have h2 : (mn : Int) ≤ (mc : Int) := by omega
      cases mo with
      | none =>
        obtain ⟨rfl, rfl⟩ := HMS.out.bare rfl
        have t3 : min (0 : Int) 8 = 0 := by omega
        have CM := Lib.hid (CMK.out none 0 0 m _ (HMS.out.keep HBB.out.bw) (by omega))
        go_wp2_with (go_at_call 18; with_reducible refine CM.out.mono ?_; rintro e w1 ⟨ao, nx, cx, rx, kx, rfl, hm, q⟩)
        go_meet
        case rel => exact ⟨⟨ao, nx, cx, rx, kx, rfl, rfl, hm, Lib.hid (HBB.out.keep q.out)⟩, Lib.hid (HA.out.2.2.keep q.out)⟩
      | some a =>
        have CM := Lib.hid (CMK.out (some a) mn mc m _ (HMS.out.keep HBB.out.bw) (by omega))
        go_wp2_with (go_at_call 18; with_reducible refine CM.out.mono ?_; rintro e w1 ⟨ao, nx, cx, rx, kx, rfl, hm, q⟩)
        go_meet
        case rel => exact ⟨⟨ao, nx, cx, rx, kx, rfl, rfl, hm, Lib.hid (HBB.out.keep q.out)⟩, Lib.hid (HA.out.2.2.keep q.out)⟩
    · have t1 : min (mn : Int) 8 = 8 := by omega
      have t2 : (8 : Int) < (mn : Int) := by omega
      have h2 : (8 : Int) ≤ (mc : Int) := by omega
      obtain ⟨b', p', rfl, _⟩ := HMS.out.here (by omega)
      have CM := Lib.hid (CMK.out (some ⟨b', p', none⟩) 8 mc (m.take 8) _ ((HMS.out.keep HBB.out.bw).take 8 (by omega)) (by omega))
      go_wp2_with (go_at_call 18; with_reducible refine CM.out.mono ?_; rintro e w1 ⟨ao, nx, cx, rx, kx, rfl, hm, q⟩)
      go_meet
      case rel => exact ⟨⟨ao, nx, cx, rx, kx, rfl, rfl, hm, Lib.hid (HBB.out.keep q.out)⟩, Lib.hid (HA.out.2.2.keep q.out)⟩
  case rest =>
  obtain ⟨⟨a2, n2, c2, B, k2, rfl, rfl, HB, HBB⟩, HA2⟩ := hcut
  have HA : Hid (Good A ∧ n1 ≤ 8 ∧ SpAt wc a1 n1 c1 A) := Lib.hid ⟨HA.out.1, HA.out.2.1, HA2.out⟩
  clear HA2 HLS HMS CMK
  have CU := Lib.hid (CUN.out a1 a2 n1 c1 n2 c2 A B _ HA.out.1 HB.out.1 HA.out.2.1 HB.out.2.1 HA.out.2.2 HB.out.2.2)
  go_wp2_with fail
  (with_reducible refine CU.out.mono ?_)
  rintro e w3 ⟨a3, n3, c3, U, rfl, HU, q⟩
  have HBB := Lib.hid (HBB.out.keep q.out)
  have HA := Lib.hid (⟨HA.out.1, HA.out.2.1, HA.out.2.2.keep q.out⟩ : _ ∧ _ ∧ _)
  have HB := Lib.hid (⟨HB.out.1, HB.out.2.1, HB.out.2.2.keep q.out⟩ : _ ∧ _ ∧ _)
  clear q CU CUN
  obtain ⟨x, hx⟩ : ∃ x, hullA U = x := ⟨_, rfl⟩
  obtain ⟨y, hy⟩ : ∃ y, hullB U = y := ⟨_, rfl⟩
  have CH := hull_any a3 n3 c3 U w3 HU.out.2.2.1
  obtain ⟨sb, hsb⟩ : ∃ s, decide (0 < n3) = s := ⟨_, rfl⟩
  rw [hx, hy, hsb] at CH
  have HSB : Hid (sb = true ↔ 0 < n3) := Lib.hid (by rw [← hsb]; simp)
  clear hsb
  have CH := Lib.hid CH
  have HXY := Lib.hid (⟨hx, hy⟩ : _ ∧ _)
  clear hx hy
  go_wp2_with fail
  (with_reducible refine CH.out.mono ?_)
  rintro e w4 ⟨rfl, q⟩
  have HBB := Lib.hid (HBB.out.keep q)
  have HA := Lib.hid (⟨HA.out.1, HA.out.2.1, HA.out.2.2.keep q⟩ : _ ∧ _ ∧ _)
  have HB := Lib.hid (⟨HB.out.1, HB.out.2.1, HB.out.2.2.keep q⟩ : _ ∧ _ ∧ _)
  have HU := Lib.hid (⟨HU.out.1, HU.out.2.1, HU.out.2.2.1.keep q, HU.out.2.2.2⟩ : _ ∧ _ ∧ _ ∧ _)
  clear q CH
  obtain ⟨b4, hb4⟩ : ∃ s, w4.heap.size = s := ⟨_, rfl⟩
  obtain ⟨w5, hw5⟩ : ∃ W, w4.alloc (.cells #[.int .i64 x, .int .i64 y] 33) = W := ⟨_, rfl⟩
  have K5 : Below w4.heap.size w4 w5 := by rw [← hw5]; exact (Below.refl _ _).alloc (Nat.le_refl _) _
  have HC4 : Hid (w5.heap[b4]? = some (.cells #[.int .i64 x, .int .i64 y] 33 (0, 0))) := Lib.hid (by rw [← hw5]; exact heap_at hb4)
  have HBB := Lib.hid (HBB.out.keep K5)
  have HA := Lib.hid (⟨HA.out.1, HA.out.2.1, HA.out.2.2.keep K5⟩ : _ ∧ _ ∧ _)
  have HB := Lib.hid (⟨HB.out.1, HB.out.2.1, HB.out.2.2.keep K5⟩ : _ ∧ _ ∧ _)
  have HU := Lib.hid (⟨HU.out.1, HU.out.2.1, HU.out.2.2.1.keep K5, HU.out.2.2.2⟩ : _ ∧ _ ∧ _ ∧ _)
  have K5 := Lib.hid K5
  go_upto_region 5 with fail
  try rw [hw5]
  clear hw5 hb4 K5
  go_cut [82] from 59 to 82 (fun s82 wx => ∃ tb : Bool, s82 = .bool tb ∧ Hid (tb = false → r = true ∧ -400 ≤ x ∧ y ≤ 400) ∧ Hid (Below w5.heap.size w5 wx))
  case first =>
    have e0 : w5.cell? ⟨b, 0, none⟩ = some (.int .i64 P) := HBB.out.c0
    have e1 : w5.cell? ⟨b, 1, none⟩ = some (.int .i64 N) := HBB.out.c1
    have e2 : w5.cell? ⟨b, 2, none⟩ = some (.slice co cn cc) := HBB.out.c2
    have e3 : w5.cell? ⟨b, 3, none⟩ = some (.slice oo on oc) := HBB.out.c3
    go_wp2_with fail
    (with_reducible refine (HRI.out _ HBB.out.at_).mono ?_)
    rintro e w6 ⟨rfl, q⟩
    have KW := Lib.hid q
    clear q e0 e1 e2 e3
    cases r
    · go_wp2
      go_meet
      case rel => exact ⟨true, rfl, Lib.hid (fun z => by cases z), KW⟩
    · by_cases z1 : k1 = 0
      · subst z1
        by_cases z2 : k2 = 0
        · subst z2
          cases sb
          rotate_left 1
          · have f0 : w6.cell? ⟨b4, 0, none⟩ = some (.int .i64 x) := cell_keep (cell_block HC4.out 0) KW.out
            have f1 : w6.cell? ⟨b4, 1, none⟩ = some (.int .i64 y) := cell_keep (cell_block HC4.out 1) KW.out
            by_cases z4 : x < -400
            · go_wp2
              go_meet
              case rel => exact ⟨true, rfl, Lib.hid (fun z => by cases z), KW⟩
            · by_cases z5 : 400 < y
              · go_wp2
                go_meet
                case rel => exact ⟨true, rfl, Lib.hid (fun z => by cases z), KW⟩
              · have HF : Hid (true = true ∧ -400 ≤ x ∧ y ≤ 400) := Lib.hid ⟨rfl, by omega, by omega⟩
                have z6 : decide (x < -400) = false := by simp; omega
                have z7 : decide (400 < y) = false := by simp; omega
                go_wp2
                go_meet
                case rel => exact ⟨false, rfl, Lib.hid (fun _ => HF.out), KW⟩
          · have HF : Hid (true = true ∧ -400 ≤ x ∧ y ≤ 400) := Lib.hid (by
              obtain ⟨e1, e2⟩ := hull_empty HU.out.2.2.1 (fun z => by have := HSB.out.2 z; cases this)
              obtain ⟨e3, e4⟩ := HXY.out
              exact ⟨rfl, by omega, by omega⟩)
            go_wp2
            go_meet
            case rel => exact ⟨false, rfl, Lib.hid (fun _ => HF.out), KW⟩
        · have z6 : (k2 != 0) = true := by simp; exact z2
          go_wp2
          go_meet
          case rel => exact ⟨true, rfl, Lib.hid (fun z => by cases z), KW⟩
      · have z6 : (k1 != 0) = true := by simp; exact z1
        go_wp2
        go_meet
        case rel => exact ⟨true, rfl, Lib.hid (fun z => by cases z), KW⟩
  case rest =>
    obtain ⟨tb, rfl, HT, HK⟩ := hcut
    have HBB := Lib.hid (HBB.out.keep HK.out)
    have HA := Lib.hid (⟨HA.out.1, HA.out.2.1, HA.out.2.2.keep HK.out⟩ : _ ∧ _ ∧ _)
    have HB := Lib.hid (⟨HB.out.1, HB.out.2.1, HB.out.2.2.keep HK.out⟩ : _ ∧ _ ∧ _)
    have HU := Lib.hid (⟨HU.out.1, HU.out.2.1, HU.out.2.2.1.keep HK.out, HU.out.2.2.2⟩ : _ ∧ _ ∧ _ ∧ _)
    clear HK HC4 HRI
    cases tb
    rotate_left 1
    · clear HT
      go_wp2_with fail
      (with_reducible refine (HAW.out _).mono ?_)
      rintro e w9 ⟨rfl, q⟩
      have HBB := Lib.hid (HBB.out.keep q)
      clear q
      go_wp2
      go_returns
      exact ⟨rfl, HBB.out.bw⟩
    · obtain ⟨rfl, hx4, hy4⟩ := HT.out rfl
      have HRD := Lib.hid (HRT.out rfl)
      have HH : Hid (-400 ≤ hullA U ∧ hullB U ≤ 400) := Lib.hid (by obtain ⟨e1, e2⟩ := HXY.out; omega)
      clear HT hx4 hy4
      have e0 : wc.cell? ⟨b, 0, none⟩ = some (.int .i64 P) := HBB.out.c0
      have e1 : wc.cell? ⟨b, 1, none⟩ = some (.int .i64 N) := HBB.out.c1
      have e2 : wc.cell? ⟨b, 2, none⟩ = some (.slice co cn cc) := HBB.out.c2
      have e3 : wc.cell? ⟨b, 3, none⟩ = some (.slice oo on oc) := HBB.out.c3
      go_wp2_with fail
      (with_reducible refine (COV.out (by first | rfl | trivial) a1 n1 c1 A _ HBB.out.at_ HA.out.2.2 (by have := HA.out.2.1; omega)).mono ?_)
      rintro e w7 ⟨⟨v7, xs, k7, rfl, ho, hw⟩, q⟩
      obtain ⟨rfl, s1, s2, s3⟩ := over_near HRD.out.1 HRD.out.2.1 HLN.out HA.out.1 (hull_part HA.out.1 HU.out.1 (fun t q => (HU.out.2.2.2 t).2 (.inl q)) HH.out.1 HH.out.2).1 (hull_part HA.out.1 HU.out.1 (fun t q => (HU.out.2.2.2 t).2 (.inl q)) HH.out.1 HH.out.2).2 ho
      have HX7 := Lib.hid (⟨s1, s2, s3⟩ : _ ∧ _ ∧ _)
      have HO7 := Lib.hid hw
      clear ho hw s1 s2 s3 e0 e1 e2 e3
      have HBB := Lib.hid (HBB.out.keep q.out)
      have HA := Lib.hid (⟨HA.out.1, HA.out.2.1, HA.out.2.2.keep q.out⟩ : _ ∧ _ ∧ _)
      have HB := Lib.hid (⟨HB.out.1, HB.out.2.1, HB.out.2.2.keep q.out⟩ : _ ∧ _ ∧ _)
      have HU := Lib.hid (⟨HU.out.1, HU.out.2.1, HU.out.2.2.1.keep q.out, HU.out.2.2.2⟩ : _ ∧ _ ∧ _ ∧ _)
      clear q
      have e0 : w7.cell? ⟨b, 0, none⟩ = some (.int .i64 P) := HBB.out.c0
      have e1 : w7.cell? ⟨b, 1, none⟩ = some (.int .i64 N) := HBB.out.c1
      have e2 : w7.cell? ⟨b, 2, none⟩ = some (.slice co cn cc) := HBB.out.c2
      have e3 : w7.cell? ⟨b, 3, none⟩ = some (.slice oo on oc) := HBB.out.c3
      go_wp2_with fail
      (with_reducible refine (COV.out (by first | rfl | trivial) a2 n2 c2 B _ HBB.out.at_ HB.out.2.2 (by have := HB.out.2.1; omega)).mono ?_)
      rintro e w8 ⟨⟨v8, ys, k8, rfl, ho, hw⟩, q⟩
      obtain ⟨rfl, s1, s2, s3⟩ := over_near HRD.out.1 HRD.out.2.1 HLN.out HB.out.1 (hull_part HB.out.1 HU.out.1 (fun t q => (HU.out.2.2.2 t).2 (.inr q)) HH.out.1 HH.out.2).1 (hull_part HB.out.1 HU.out.1 (fun t q => (HU.out.2.2.2 t).2 (.inr q)) HH.out.1 HH.out.2).2 ho
      have HX8 := Lib.hid (⟨s1, s2, s3⟩ : _ ∧ _ ∧ _)
      have HO8 := Lib.hid hw
      clear ho hw s1 s2 s3 e0 e1 e2 e3
      have HBB := Lib.hid (HBB.out.keep q.out)
      have HA := Lib.hid (⟨HA.out.1, HA.out.2.1, HA.out.2.2.keep q.out⟩ : _ ∧ _ ∧ _)
      have HB := Lib.hid (⟨HB.out.1, HB.out.2.1, HB.out.2.2.keep q.out⟩ : _ ∧ _ ∧ _)
      have HU := Lib.hid (⟨HU.out.1, HU.out.2.1, HU.out.2.2.1.keep q.out, HU.out.2.2.2⟩ : _ ∧ _ ∧ _ ∧ _)
      have HO7 := Lib.hid (keepB HO7.out q.out)
      clear q
      have e0 : w8.cell? ⟨b, 0, none⟩ = some (.int .i64 P) := HBB.out.c0
      have e1 : w8.cell? ⟨b, 1, none⟩ = some (.int .i64 N) := HBB.out.c1
      have e2 : w8.cell? ⟨b, 2, none⟩ = some (.slice co cn cc) := HBB.out.c2
      have e3 : w8.cell? ⟨b, 3, none⟩ = some (.slice oo on oc) := HBB.out.c3
      go_wp2_with fail
      (with_reducible refine (COV.out (by first | rfl | trivial) a3 n3 c3 U _ HBB.out.at_ HU.out.2.2.1 (by have := HU.out.2.1; omega)).mono ?_)
      rintro e w9 ⟨⟨v9, zs, k9, rfl, ho, hw⟩, q⟩
      obtain ⟨rfl, s1, s2, s3⟩ := over_near HRD.out.1 HRD.out.2.1 HLN.out HU.out.1 HH.out.1 HH.out.2 ho
      have HX9 := Lib.hid (⟨s1, s2, s3⟩ : _ ∧ _ ∧ _)
      have HO9 := Lib.hid hw
      clear ho hw s1 s2 s3 e0 e1 e2 e3
      have HBB := Lib.hid (HBB.out.keep q.out)
      have HU := Lib.hid (⟨HU.out.1, HU.out.2.1, HU.out.2.2.1.keep q.out, HU.out.2.2.2⟩ : _ ∧ _ ∧ _ ∧ _)
      have HO7 := Lib.hid (keepB HO7.out q.out)
      have HO8 := Lib.hid (keepB HO8.out q.out)
      clear q
      have HMZ : Hid (∀ i, i ∈ zs ↔ i ∈ xs ++ ys) := Lib.hid (fun i => by
        rw [List.mem_append, HX9.out.2.1 i, HX7.out.2.1 i, HX8.out.2.1 i]
        unfold MeetL
        constructor
        · rintro ⟨e, t, m1, m2⟩
          rcases (HU.out.2.2.2 t).1 m2 with q | q
          · exact .inl ⟨e, t, m1, q⟩
          · exact .inr ⟨e, t, m1, q⟩
        · rintro (⟨e, t, m1, m2⟩ | ⟨e, t, m1, m2⟩)
          · exact ⟨e, t, m1, (HU.out.2.2.2 t).2 (.inl m2)⟩
          · exact ⟨e, t, m1, (HU.out.2.2.2 t).2 (.inr m2)⟩)
      have HSZ : Hid (xs.length + ys.length ≤ 1602) := Lib.hid (by have := HX7.out.2.2; have := HX8.out.2.2; omega)
      have HBD : Hid (∀ i ∈ xs ++ ys, -1099511627776 ≤ i ∧ i ≤ 1099511627776) := Lib.hid (fun i hi => ((HX9.out.2.1 i).1 ((HMZ.out i).2 hi)).1.1)
      clear HA HB HX7 HX8
      obtain ⟨L, hL⟩ : ∃ L, xs ++ ys = L := ⟨_, rfl⟩
      rw [hL] at HMZ HBD
      have HLL := Lib.hid hL
      obtain ⟨nn, hnn⟩ : ∃ n, L.length = n := ⟨_, rfl⟩
      have HNN : Hid (L.length = nn) := Lib.hid hnn
      have hnn2 : nn ≤ 1602 := by rw [← hnn, ← hL, List.length_append]; exact HSZ.out
      obtain ⟨nz, hnz⟩ : ∃ n, zs.length = n := ⟨_, rfl⟩
      have HNZ : Hid (zs.length = nz) := Lib.hid hnz
      have hnz2 : nz ≤ 801 := by rw [← hnz]; exact HX9.out.2.2
      clear hL hnn hnz
      obtain ⟨bm, hbm⟩ : ∃ s, w9.heap.size = s := ⟨_, rfl⟩
      obtain ⟨w10, hw10⟩ : ∃ W, w9.alloc (.map #[] 0) = W := ⟨_, rfl⟩
      have K10 : Below w9.heap.size w9 w10 := by rw [← hw10]; exact (Below.refl _ _).alloc (Nat.le_refl _) _
      have HOM : Hid (w10.ownsMap Try.prog 3 (plainElem (H := Unit) Try.prog 3) bm 0 (.map [])) := Lib.hid (by rw [← hw10, ← hbm]; exact World.ownsMap_made _ _ _ _)
      have HBL : Hid (w9.heap.size = bm ∧ bm < w10.heap.size) := Lib.hid (by rw [← hw10]; simp; omega)
      have HO7 := Lib.hid (keepB HO7.out K10)
      have HO8 := Lib.hid (keepB HO8.out K10)
      have K10 := Lib.hid K10
      have hmm := @run_makeMap Try.prog
      go_upto_region 13 with fail
      clear hmm
      try rw [hw10]
      try rw [hbm]
      clear hw10 hbm
      go_wp2_with (first
        | (at_builtin; refine wpList_app_iz rfl (.const (.slice none 0 0)) (.tmp 113) rfl w10.heap.size (.slice none 0 0) [] xs rfl (World.ownsRow_nil _ _ _ _) v7 _ rfl HO7.out (by have := HSZ.out; simp; omega) (Nat.le_refl _) ?_; intro v11 w11 ho11 q11; have HO11 := Lib.hid ho11; have HO8 := Lib.hid (keepB HO8.out q11); have K11 := Lib.hid q11; clear ho11 q11)
        | (at_builtin; refine wpList_app_iz rfl (.tmp 114) (.tmp 115) rfl w10.heap.size v11 xs ys rfl HO11.out v8 _ rfl HO8.out (by have := HSZ.out; omega) K11.out.size ?_; intro v12 w12 ho12 q12; rw [HLL.out] at ho12; obtain ⟨ao12, c12, e12, _⟩ := own_iz ho12; rw [HNN.out] at e12; subst e12; have HO12 : Hid (w12.ownsRow w10.heap.size 3 1 (.slice ao12 nn c12) nn (ints L)) := Lib.hid (by rw [HNN.out] at ho12; exact ho12); have K12 := Lib.hid (K11.out.trans q12); clear ho12 q12))
      have KK := Lib.hid (K10.out.trans (K12.out.mono K10.out.size))
      clear HO7 HO8 HO11 K11 HLL HSZ
      go_loopw [118] (fun ii wr => ∃ k : Nat, k ≤ nn ∧ ii = .int .i64 k ∧ Hid (Below w9.heap.size w9 wr) ∧ Hid (wr.ownsRow w10.heap.size 3 1 (.slice ao12 nn c12) nn (ints L)) ∧ Hid (∃ D, wr.ownsMap Try.prog 3 (plainElem (H := Unit) Try.prog 3) bm k D ∧ Cnts D (L.take k))) (fun ii _ => nn - (intOf ii).toNat)
      case atStart => exact ⟨0, Nat.zero_le _, rfl, KK, HO12, Lib.hid ⟨_, om_keep HOM.out K12.out, cnts_nil⟩⟩
      case round =>
        obtain ⟨k, hk, rfl, HKW, HOR, HOM⟩ := hrel
        clear KK K10 K12 HO12
        by_cases klt : k < nn
        · obtain ⟨D, hD⟩ := HOM.out
          have HDD := Lib.hid hD.1
          have HCD := Lib.hid hD.2
          clear hD HOM
          have hkl : k < L.length := by rw [HNN.out]; exact klt
          obtain ⟨g, p, rfl, hc⟩ := (row_at HOR.out HNN.out).here (by omega)
          have c1 := hc k hkl
          have HMM := Lib.hid (HBD.out L[k] (List.getElem_mem hkl))
          have HT := Lib.hid (List.take_succ_eq_append_getElem hkl)
          obtain ⟨x', hx'⟩ : ∃ x', L[k] = x' := ⟨_, rfl⟩
          rw [hx'] at c1 HMM HT
          have b1 := HMM.out.1
          have b2 := HMM.out.2
          obtain ⟨ct, hct⟩ : ∃ ct, (L.take k).count x' = ct := ⟨_, rfl⟩
          have hct2 : ct ≤ 1602 := by
            rw [← hct]
            have := List.count_le_length (a := x') (l := L.take k)
            rw [List.length_take] at this
            omega
          have HAT : Hid (D.atKey (.int .i64 x') (.lit (.int .i64 0)) = .lit (.int .i64 (ct : Int))) := Lib.hid (by rw [← hct]; exact HCD.out.at_ x')
          have HPU : Hid (Cnts (D.put (.int .i64 x') (.lit (.int .i64 ((ct : Int) + 1)))) (L.take (k + 1))) := Lib.hid (by rw [HT.out, ← hct]; exact cnts_put HCD.out x' (by omega) (by omega))
          have HKY : Hid (keyOf Try.prog 3 (.int .i64 x') = some (.int .i64 x')) := Lib.hid (Maps.keyOf_int_mk Try.underlying3 (WalkArith.wf_i64 (by omega)))
          have i0 : (0 : Int) ≤ (k : Int) := by omega
          have i1 : (k : Int) < (nn : Int) := by omega
          clear hc hx' hct hkl HMM HT
          go_wp2_with (first
            | (at_lookup; refine wpList_lookup_own_int _ rfl _ _ 51 rfl 3 3 .i64 law3 Try.underlying51 Try.underlying3 (zero3 _) bm k D rfl HDD.out _ _ rfl HKY.out ?_; intro c hat hwc; obtain rfl : c = (ct : Int) := (by have h := HAT.out.symm.trans hat; cases h; rfl); clear hat hwc)
            | (at_mapUpdate; refine wpList_mapUpdate_own _ rfl _ _ _ 51 rfl 3 3 law3 Try.underlying51 _ bm k D rfl HDD.out (by unfold maxLen; omega) _ _ _ rfl rfl HKY.out _ [] (plainElem_int Try.underlying3 (WalkArith.wf_i64 (by omega))) ?_; intro w1 hown1 hgrow1; have HM1 := Lib.hid hown1; have HKW1 := Lib.hid (HKW.out.grown hgrow1 HKW.out.size (fun j hj => by cases hj; exact Nat.le_of_eq HBL.out.1)); have HOR1 := Lib.hid (HOR.out.kept hgrow1 (row_ne HOR.out HBL.out.2)); clear hown1 hgrow1))
          go_roundw
          case rel => exact ⟨k + 1, by omega, by go_num, HKW1, HOR1, Lib.hid ⟨_, HM1.out, HPU.out⟩⟩
          case measure => simp [intOf]; omega
        · obtain rfl : nn = k := by omega
          obtain ⟨w13, hw13⟩ : ∃ v : World, v = wr := ⟨_, rfl⟩
          subst hw13
          obtain ⟨D, hD⟩ := HOM.out
          have HOM := Lib.hid hD.1
          have HCD : Hid (Cnts D L) := Lib.hid (by have := hD.2; rw [List.take_of_length_le (by rw [HNN.out]; exact Nat.le_refl _)] at this; exact this)
          clear hD HOR klt hk
          have HBB := Lib.hid (HBB.out.keep HKW.out)
          have HU := Lib.hid (⟨HU.out.1, HU.out.2.1, HU.out.2.2.1.keep HKW.out, HU.out.2.2.2⟩ : _ ∧ _ ∧ _ ∧ _)
          have HO9 := Lib.hid (keepB HO9.out HKW.out)
          clear HKW HBL HH
          obtain ⟨ao9, c9, e9, _⟩ := own_iz HO9.out
          rw [HNZ.out] at e9
          subst e9
          have HO9 : Hid (w13.ownsRow _ 3 1 (.slice ao9 nz c9) nz (ints zs)) := Lib.hid (by have := HO9.out; rw [HNZ.out] at this; exact this)
          go_wp2
          go_loopw [129] (fun ii wr => ∃ n : Nat, n ≤ nz ∧ ii = .int .i64 n ∧ Hid (Below w13.heap.size w13 wr)) (fun ii _ => nz - (intOf ii).toNat)
          case atStart => exact ⟨0, Nat.zero_le _, rfl, Lib.hid (Below.refl _ _)⟩
          case round =>
            obtain ⟨n, hn, rfl, HW⟩ := hrel
            obtain ⟨wo, hwo⟩ : ∃ v : World, v = wr := ⟨_, rfl⟩
            subst hwo
            have HUS := Lib.hid (HU.out.2.2.1.keep HW.out)
            have HB13 := HBB
            have HBB := Lib.hid (HBB.out.keep HW.out)
            by_cases nlt : n < nz
            · have hnl : n < zs.length := by rw [HNZ.out]; exact nlt
              obtain ⟨g9, p9, rfl, hc9⟩ := (row_at HO9.out HNZ.out).here (by omega)
              have HCN := Lib.hid (fun (j : Nat) (h : j < zs.length) (W : World) (q : Below w13.heap.size w13 W) => cell_keep (hc9 j h) q)
              clear hc9
              have c1 := HCN.out n hnl _ HW.out
              have HEX : Hid (Ex ⟨P, N, co, cn, cc, oo, on, oc, cs, os⟩ zs[n] ∧ MeetL ⟨P, N, co, cn, cc, oo, on, oc, cs, os⟩ U zs[n]) := Lib.hid ((HX9.out.2.1 _).1 (List.getElem_mem hnl))
              have HPR : Hid (∀ n', n = n' + 1 → ∃ (zp : Int) (_ : n' < zs.length), zs[n'] = zp ∧ Ex ⟨P, N, co, cn, cc, oo, on, oc, cs, os⟩ zp ∧ zp < zs[n] ∧ ∀ k, zp < k → k < zs[n] → k ∉ zs) := Lib.hid (fun n' e => by
                subst e
                have h1 := inc_step HX9.out.1 (Nat.succ_pos n') hnl
                have h2 := fun k (a : zs[n' + 1 - 1]'(by omega) < k) b => between_none HX9.out.1 (Nat.succ_pos n') hnl (k := k) a b
                exact ⟨zs[n']'(by omega), by omega, rfl, ((HX9.out.2.1 _).1 (List.getElem_mem _)).1, h1, h2⟩)
              have HMI : Hid (zs[n] ∈ L) := Lib.hid ((HMZ.out _).1 (List.getElem_mem hnl))
              obtain ⟨i, hi⟩ : ∃ i, zs[n] = i := ⟨_, rfl⟩
              rw [hi] at c1 HEX HMI
              simp only [hi] at HPR
              obtain ⟨⟨i1, i2⟩, _, _⟩ := HEX.out.1
              obtain ⟨ct, hct⟩ : ∃ ct, L.count i = ct := ⟨_, rfl⟩
              have hct0 : 0 < ct := by rw [← hct]; exact List.count_pos_iff.2 HMI.out
              have HAT : Hid (D.atKey (.int .i64 i) (.lit (.int .i64 0)) = .lit (.int .i64 (ct : Int))) := Lib.hid (by rw [← hct]; exact HCD.out.at_ i)
              have HKY : Hid (keyOf Try.prog 3 (.int .i64 i) = some (.int .i64 i)) := Lib.hid (Maps.keyOf_int_mk Try.underlying3 (WalkArith.wf_i64 (by omega)))
              have j0 : (0 : Int) ≤ (n : Int) := by omega
              have j1 : (n : Int) < (nz : Int) := by omega
              clear hi hct HMI
              have e0 : wo.cell? ⟨b, 0, none⟩ = some (.int .i64 P) := HBB.out.c0
              have e1 : wo.cell? ⟨b, 1, none⟩ = some (.int .i64 N) := HBB.out.c1
              have e2 : wo.cell? ⟨b, 2, none⟩ = some (.slice co cn cc) := HBB.out.c2
              have e3 : wo.cell? ⟨b, 3, none⟩ = some (.slice oo on oc) := HBB.out.c3
              go_wp2_with fail
              (with_reducible refine (HGE.out (by first | rfl | trivial) i _ HBB.out.at_).mono ?_)
              rintro e w14 ⟨ag1, ng1, cg1, Lg1, kg1, rfl, q, HSg1, HRg1⟩
              obtain ⟨rfl, HTg1⟩ : kg1 = 0 ∧ Hid (Lg1 = gr ⟨P, N, co, cn, cc, oo, on, oc, cs, os⟩ i) := by
                rcases HRg1 with ⟨e, h⟩ | ⟨_, _, h⟩
                · exact ⟨e, Lib.hid h.out.2⟩
                · exact absurd ⟨HEX.out.1.1, HEX.out.1.2.1⟩ h.out
              have zg1 := HTg1.out
              subst zg1
              clear HRg1 HTg1
              have HBB := Lib.hid (HBB.out.keep q.out)
              have HUS := Lib.hid (HUS.out.keep q.out)
              have HW := Lib.hid (HW.out.trans (q.out.mono HW.out.size))
              clear q e0 e1 e2 e3 c1
              have HM14 := Lib.hid (om_keep HOM.out HW.out)
              have HME := Lib.hid (meet_any ag1 a3 ng1 cg1 n3 c3 (gr ⟨P, N, co, cn, cc, oo, on, oc, cs, os⟩ i) U w14 HSg1.out HUS.out (gr_good' HRD.out.2.1 HEX.out.1) HU.out.1 (by rw [← HSg1.out.len]; exact Nat.le_trans (gr_len HRD.out.2.1 i) (by decide)) (by have := HU.out.2.1; omega) true ⟨fun _ => HEX.out.2, fun _ => rfl⟩)
              rcases n with _ | n'
              · clear HPR HCN
                go_wp2_with (first
                  | (at_lookup; refine wpList_lookup_own_int _ rfl _ _ 51 rfl 3 3 .i64 law3 Try.underlying51 Try.underlying3 (zero3 _) bm nn D rfl HM14.out _ _ rfl HKY.out ?_; intro c hat hwc; obtain rfl : c = (ct : Int) := (by have h := HAT.out.symm.trans hat; cases h; rfl); have hcz : ((ct : Int) == 0) = false := (by simp; omega); clear hat hwc)
                  | (go_at_call 22; with_reducible refine HME.out.mono ?_; rintro e w15 ⟨rfl, q⟩; have HW15 := Lib.hid (HW.out.trans (q.mono HW.out.size)); clear q))
                go_roundw
                case rel => exact ⟨1, by omega, by go_num, HW15⟩
                case measure => simp [intOf]; omega
              · obtain ⟨zp, hnp, hzp, exz, hzi, hbt⟩ := HPR.out n' rfl
                have HEZ := Lib.hid exz
                have HBT := Lib.hid hbt
                obtain ⟨⟨p1, p2⟩, _, _⟩ := exz
                have HC3 := Lib.hid (HCN.out n' hnp)
                rw [hzp] at HC3
                have hzi2 : ¬ i ≤ zp := by omega
                have hn0 : ((n' : Int) + 1 == 0) = false := by simp; omega
                clear HPR HCN hnp hzp hbt hnl
                go_upto_region 25 with (first
                  | (at_lookup; refine wpList_lookup_own_int _ rfl _ _ 51 rfl 3 3 .i64 law3 Try.underlying51 Try.underlying3 (zero3 _) bm nn D rfl HM14.out _ _ rfl HKY.out ?_; intro c hat hwc; obtain rfl : c = (ct : Int) := (by have h := HAT.out.symm.trans hat; cases h; rfl); have hcz : ((ct : Int) == 0) = false := (by simp; omega); clear hat hwc)
                  | (go_at_call 22; with_reducible refine HME.out.mono ?_; rintro e w15 ⟨rfl, q⟩; have HBB := Lib.hid (HBB.out.keep q); have HW15 := Lib.hid (HW.out.trans (q.mono HW.out.size)); have HUS := Lib.hid (HUS.out.keep q); have c3' := HC3.out w15 HW15.out; clear q))
                have hW : IntKind.i64.wrap ((n' : Int) + 1 - 1) = (n' : Int) := by rw [IntWalk.i64_in _ (by omega)]; omega
                have i0 : (0 : Int) ≤ (n' : Int) := by omega
                have hW2 : IntKind.i64.wrap (n' : Int) = (n' : Int) := IntWalk.i64_in _ (by omega)
                have i1' : (n' : Int) < (nz : Int) := by omega
                have HS : Hid (∀ W, Fbox ⟨P, N, co, cn, cc, oo, on, oc, cs, os⟩ w W b → Below w13.heap.size w13 W → W.cell? ⟨b, 0, none⟩ = some (.int .i64 P) ∧ W.cell? ⟨b, 1, none⟩ = some (.int .i64 N) ∧ W.cell? ⟨b, 2, none⟩ = some (.slice co cn cc) ∧ W.cell? ⟨b, 3, none⟩ = some (.slice oo on oc) ∧ W.cell? ⟨g9, p9 + n', none⟩ = some (.int .i64 zp) ∧ Hid (Fbox ⟨P, N, co, cn, cc, oo, on, oc, cs, os⟩ w W b ∧ Below w13.heap.size w13 W)) := Lib.hid (fun W h k => ⟨h.c0, h.c1, h.c2, h.c3, HC3.out W k, Lib.hid ⟨h, k⟩⟩)
                clear c3'
                refine wp_region_held_drew (S := (fun W => W.cell? ⟨b, 0, none⟩ = some (.int .i64 P) ∧ W.cell? ⟨b, 1, none⟩ = some (.int .i64 N) ∧ W.cell? ⟨b, 2, none⟩ = some (.slice co cn cc) ∧ W.cell? ⟨b, 3, none⟩ = some (.slice oo on oc) ∧ W.cell? ⟨g9, p9 + n', none⟩ = some (.int .i64 zp) ∧ Hid (Fbox ⟨P, N, co, cn, cc, oo, on, oc, cs, os⟩ w W b ∧ Below w13.heap.size w13 W))) (by kernel_rfl) ?_ (fun hHeld => ?_)
                · exact HS.out _ (HBB.out.keep (Below.refl _ _).drew) (HW15.out.trans ((Below.refl _ _).drew))
                refine wpAnyH_take (i := 0) (oi := _) (v := ?_) rfl (by kernel_rfl) (by kernel_rfl) (by kernel_rfl) (fun _ _ _ h => h) (Or.inl ⟨by kernel_rfl, ?_⟩) (by assumption) ?_
                rotate_left 1
                focus (intro wq hSw; (try dsimp only at hSw); obtain ⟨s0, s1, s2, s3, s4, s5⟩ := hSw; go_simp; (try with_reducible rfl); done)
                try simp only [List.getElem_toArray, List.getElem_cons_zero, List.getElem_cons_succ, Act.put, List.setIfInBounds_toArray, List.set_cons_zero, List.set_cons_succ]
                refine wpAnyH_take (i := 1) (oi := _) (v := ?_) rfl (by kernel_rfl) (by kernel_rfl) (by kernel_rfl) (fun _ _ _ h => h) (Or.inl ⟨by kernel_rfl, ?_⟩) (by assumption) ?_
                rotate_left 1
                focus (intro wq hSw; (try dsimp only at hSw); obtain ⟨s0, s1, s2, s3, s4, s5⟩ := hSw; go_simp; (try with_reducible rfl); done)
                try simp only [List.getElem_toArray, List.getElem_cons_zero, List.getElem_cons_succ, Act.put, List.setIfInBounds_toArray, List.set_cons_zero, List.set_cons_succ]
                refine wpAnyH_take (i := 2) (oi := _) (v := ?_) rfl (by kernel_rfl) (by kernel_rfl) (by kernel_rfl) (fun _ _ _ h => h) (Or.inl ⟨by kernel_rfl, ?_⟩) (by assumption) ?_
                rotate_left 1
                focus (intro wq hSw; (try dsimp only at hSw); obtain ⟨s0, s1, s2, s3, s4, s5⟩ := hSw; go_simp; (try with_reducible rfl); done)
                try simp only [List.getElem_toArray, List.getElem_cons_zero, List.getElem_cons_succ, Act.put, List.setIfInBounds_toArray, List.set_cons_zero, List.set_cons_succ]
                refine wpAnyH_take (i := 3) (oi := _) (v := ?_) rfl (by kernel_rfl) (by kernel_rfl) (by kernel_rfl) (fun _ _ _ h => h) (Or.inl ⟨by kernel_rfl, ?_⟩) (by assumption) ?_
                rotate_left 1
                focus (intro wq hSw; (try dsimp only at hSw); obtain ⟨s0, s1, s2, s3, s4, s5⟩ := hSw; go_simp; (try with_reducible rfl); done)
                try simp only [List.getElem_toArray, List.getElem_cons_zero, List.getElem_cons_succ, Act.put, List.setIfInBounds_toArray, List.set_cons_zero, List.set_cons_succ]
                refine wpAnyH_take (i := 4) (oi := _) (v := ?_) rfl (by kernel_rfl) (by kernel_rfl) (by kernel_rfl) (fun _ _ _ h => h) (Or.inl ⟨by kernel_rfl, ?_⟩) (by assumption) ?_
                rotate_left 1
                focus (intro wq hSw; (try dsimp only at hSw); obtain ⟨s0, s1, s2, s3, s4, s5⟩ := hSw; go_simp; (try with_reducible rfl); done)
                try simp only [List.getElem_toArray, List.getElem_cons_zero, List.getElem_cons_succ, Act.put, List.setIfInBounds_toArray, List.set_cons_zero, List.set_cons_succ]
                refine wpAnyH_take (i := 5) (oi := _) (v := ?_) rfl (by kernel_rfl) (by kernel_rfl) (by kernel_rfl) (fun _ _ _ h => h) (Or.inl ⟨by kernel_rfl, ?_⟩) (by assumption) ?_
                rotate_left 1
                focus (intro wq hSw; (try dsimp only at hSw); obtain ⟨s0, s1, s2, s3, s4, s5⟩ := hSw; go_simp; (try with_reducible rfl); done)
                try simp only [List.getElem_toArray, List.getElem_cons_zero, List.getElem_cons_succ, Act.put, List.setIfInBounds_toArray, List.set_cons_zero, List.set_cons_succ]
                refine wpAnyH_ready (rs := [6]) (by kernel_rfl) (by simp) ?_
                refine AllReadyH.cons (o := _) rfl (fun K hK => ?_) AllReadyH.nil
                rw [if_pos (by kernel_rfl)]
                go_simp
                (go_at_call 17; (with_reducible refine (HUP.out (by first | rfl | trivial) zp _ (by omega) (by omega) hHeld.2.2.2.2.2.out.1.at_).mono ?_); rintro e z17 ⟨⟨k17, ok17, rfl, h17⟩, q⟩; have q := q.out; have HN17 : Hid (Nx ⟨P, N, co, cn, cc, oo, on, oc, cs, os⟩ zp k17 ok17) := Lib.hid (fun z => by obtain ⟨a, b, c, _⟩ := h17.1 z; exact ⟨a, b, c⟩); clear h17)
                first | refine hK.out _ _ ?_ (fun hHeld => ?_) | (go_wp2_with fail; refine hK.out _ _ ?_ (fun hHeld => ?_))
                · exact HS.out _ (hHeld.2.2.2.2.2.out.1.keep q) (hHeld.2.2.2.2.2.out.2.trans (q.mono hHeld.2.2.2.2.2.out.2.size))
                clear hK K
                try simp only [List.getElem_toArray, List.getElem_cons_zero, List.getElem_cons_succ, Act.put, List.setIfInBounds_toArray, List.set_cons_zero, List.set_cons_succ]
                refine wpAnyH_take (i := 7) (oi := _) (v := ?_) rfl (by kernel_rfl) (by kernel_rfl) (by kernel_rfl) (fun _ _ _ h => h) (Or.inl ⟨by kernel_rfl, ?_⟩) (by assumption) ?_
                rotate_left 1
                focus (intro wq hSw; (try dsimp only at hSw); obtain ⟨s0, s1, s2, s3, s4, s5⟩ := hSw; go_simp; (try with_reducible rfl); done)
                try simp only [List.getElem_toArray, List.getElem_cons_zero, List.getElem_cons_succ, Act.put, List.setIfInBounds_toArray, List.set_cons_zero, List.set_cons_succ]
                refine wpAnyH_take (i := 8) (oi := _) (v := ?_) rfl (by kernel_rfl) (by kernel_rfl) (by kernel_rfl) (fun _ _ _ h => h) (Or.inl ⟨by kernel_rfl, ?_⟩) (by assumption) ?_
                rotate_left 1
                focus (intro wq hSw; (try dsimp only at hSw); obtain ⟨s0, s1, s2, s3, s4, s5⟩ := hSw; go_simp; (try with_reducible rfl); done)
                try simp only [List.getElem_toArray, List.getElem_cons_zero, List.getElem_cons_succ, Act.put, List.setIfInBounds_toArray, List.set_cons_zero, List.set_cons_succ]
                refine wpAnyH_take (i := 9) (oi := _) (v := ?_) rfl (by kernel_rfl) (by kernel_rfl) (by kernel_rfl) (fun _ _ _ h => h) (Or.inl ⟨by kernel_rfl, ?_⟩) (by assumption) ?_
                rotate_left 1
                focus (intro wq hSw; (try dsimp only at hSw); obtain ⟨s0, s1, s2, s3, s4, s5⟩ := hSw; go_simp; (try with_reducible rfl); done)
                try simp only [List.getElem_toArray, List.getElem_cons_zero, List.getElem_cons_succ, Act.put, List.setIfInBounds_toArray, List.set_cons_zero, List.set_cons_succ]
                refine wpAnyH_take (i := 10) (oi := _) (v := ?_) rfl (by kernel_rfl) (by kernel_rfl) (by kernel_rfl) (fun _ _ _ h => h) (Or.inl ⟨by kernel_rfl, ?_⟩) (by assumption) ?_
                rotate_left 1
                focus (intro wq hSw; (try dsimp only at hSw); obtain ⟨s0, s1, s2, s3, s4, s5⟩ := hSw; go_simp; (try with_reducible rfl); done)
                try simp only [List.getElem_toArray, List.getElem_cons_zero, List.getElem_cons_succ, Act.put, List.setIfInBounds_toArray, List.set_cons_zero, List.set_cons_succ]
                refine wpAnyH_take (i := 11) (oi := _) (v := ?_) rfl (by kernel_rfl) (by kernel_rfl) (by kernel_rfl) (fun _ _ _ h => h) (Or.inl ⟨by kernel_rfl, ?_⟩) (by assumption) ?_
                rotate_left 1
                focus (intro wq hSw; (try dsimp only at hSw); obtain ⟨s0, s1, s2, s3, s4, s5⟩ := hSw; go_simp; (try with_reducible rfl); done)
                try simp only [List.getElem_toArray, List.getElem_cons_zero, List.getElem_cons_succ, Act.put, List.setIfInBounds_toArray, List.set_cons_zero, List.set_cons_succ]
                refine wpAnyH_done (by kernel_rfl) ?_ _
                have HBB := Lib.hid hHeld.2.2.2.2.2.out.1
                have HW := Lib.hid hHeld.2.2.2.2.2.out.2
                clear hHeld
                go_wp2
                go_loopw [27, 28] (fun s27 s28 wi => ∃ (k : Int) (ok : Bool), s27 = .int .i64 k ∧ s28 = .bool ok ∧ Hid (Nx ⟨P, N, co, cn, cc, oo, on, oc, cs, os⟩ zp k ok) ∧ Hid (Below w13.heap.size w13 wi)) (fun s27 s28 _ => match s28 with | .bool true => (i - intOf s27).toNat + 1 | _ => 0)
                case atStart => exact ⟨k17, ok17, rfl, rfl, HN17, HW⟩
                case round =>
                  obtain ⟨k, ok, rfl, rfl, HN, HWi⟩ := hrel
                  obtain ⟨wi, hwi⟩ : ∃ v : World, v = wr := ⟨_, rfl⟩
                  subst hwi
                  cases ok
                  · go_wp2
                    go_roundw
                    case rel => exact ⟨n' + 2, by omega, by go_num, HWi⟩
                    case measure => simp [intOf]; omega
                  · obtain ⟨⟨g1', g2'⟩, g3', g4'⟩ := HN.out rfl
                    by_cases hki : k < i
                    · have HEK : Hid (Ex ⟨P, N, co, cn, cc, oo, on, oc, cs, os⟩ k) := Lib.hid (fit_between HRD.out.1 HRD.out.2.1 HLN.out HEZ.out HEX.out.1 ⟨g1', g2'⟩ g4' g3' (by omega))
                      have HNM : Hid (¬ MeetL ⟨P, N, co, cn, cc, oo, on, oc, cs, os⟩ U k) := Lib.hid (fun q => HBT.out k g3' hki ((HX9.out.2.1 k).2 ⟨HEK.out, q⟩))
                      have HBB := Lib.hid (HB13.out.keep HWi.out)
                      have HUS := Lib.hid (HU.out.2.2.1.keep HWi.out)
                      clear g4' HN
                      have e0 : wi.cell? ⟨b, 0, none⟩ = some (.int .i64 P) := HBB.out.c0
                      have e1 : wi.cell? ⟨b, 1, none⟩ = some (.int .i64 N) := HBB.out.c1
                      have e2 : wi.cell? ⟨b, 2, none⟩ = some (.slice co cn cc) := HBB.out.c2
                      have e3 : wi.cell? ⟨b, 3, none⟩ = some (.slice oo on oc) := HBB.out.c3
                      go_wp2_with fail
                      (with_reducible refine (HGE.out (by first | rfl | trivial) k _ HBB.out.at_).mono ?_)
                      rintro e w18 ⟨ag2, ng2, cg2, Lg2, kg2, rfl, q, HSg2, HRg2⟩
                      obtain ⟨rfl, HTg2⟩ : kg2 = 0 ∧ Hid (Lg2 = gr ⟨P, N, co, cn, cc, oo, on, oc, cs, os⟩ k) := by
                        rcases HRg2 with ⟨e, h⟩ | ⟨_, _, h⟩
                        · exact ⟨e, Lib.hid h.out.2⟩
                        · exact absurd ⟨HEK.out.1, HEK.out.2.1⟩ h.out
                      have zg2 := HTg2.out
                      subst zg2
                      clear HRg2 HTg2
                      have HBB := Lib.hid (HBB.out.keep q.out)
                      have HUS := Lib.hid (HUS.out.keep q.out)
                      have HW := Lib.hid (HWi.out.trans (q.out.mono HWi.out.size))
                      clear q e0 e1 e2 e3
                      have HMK := Lib.hid (meet_any ag2 a3 ng2 cg2 n3 c3 (gr ⟨P, N, co, cn, cc, oo, on, oc, cs, os⟩ k) U w18 HSg2.out HUS.out (gr_good' HRD.out.2.1 HEK.out) HU.out.1 (by rw [← HSg2.out.len]; exact Nat.le_trans (gr_len HRD.out.2.1 k) (by decide)) (by have := HU.out.2.1; omega) false ⟨fun z => (by cases z), fun z => absurd z HNM.out⟩)
                      go_wp2_with fail
                      (with_reducible refine HMK.out.mono ?_)
                      rintro e w19 ⟨rfl, q⟩
                      have HBB := Lib.hid (HBB.out.keep q)
                      have HW := Lib.hid (HW.out.trans (q.mono HW.out.size))
                      clear q HMK HSg2 HUS
                      have e0 : w19.cell? ⟨b, 0, none⟩ = some (.int .i64 P) := HBB.out.c0
                      have e1 : w19.cell? ⟨b, 1, none⟩ = some (.int .i64 N) := HBB.out.c1
                      have e2 : w19.cell? ⟨b, 2, none⟩ = some (.slice co cn cc) := HBB.out.c2
                      have e3 : w19.cell? ⟨b, 3, none⟩ = some (.slice oo on oc) := HBB.out.c3
                      go_wp2_with fail
                      (with_reducible refine (HUP.out (by first | rfl | trivial) k _ (by omega) (by omega) HBB.out.at_).mono ?_)
                      rintro e w20 ⟨⟨k20, ok20, rfl, h20⟩, q⟩
                      have HN20 : Hid (Nx ⟨P, N, co, cn, cc, oo, on, oc, cs, os⟩ zp k20 ok20) := Lib.hid (fun z => by obtain ⟨a, b, c, _⟩ := h20.1 z; exact ⟨a, by omega, c⟩)
                      have HK20 : Hid (ok20 = true → k < k20) := Lib.hid (fun z => (h20.1 z).2.1)
                      have HW := Lib.hid (HW.out.trans (q.out.mono HW.out.size))
                      clear h20 q e0 e1 e2 e3
                      go_wp2
                      go_roundw
                      case rel => exact ⟨k20, ok20, rfl, rfl, HN20, HW⟩
                      case measure =>
                        cases ok20
                        · simp [intOf]
                        · have := HK20.out rfl
                          simp [intOf]; omega
                    · go_wp2
                      go_roundw
                      case rel => exact ⟨n' + 2, by omega, by go_num, HWi⟩
                      case measure => simp [intOf]; omega
            · obtain rfl : nz = n := by omega
              have HSM : Hid (Maps.size D = nz) := Lib.hid (by rw [cnts_len HCD.out HX9.out.1 HMZ.out, HNZ.out])
              have HM := Lib.hid (om_keep HOM.out HW.out)
              obtain ⟨s5, hs5⟩ : ∃ s, wo.heap.size = s := ⟨_, rfl⟩
              obtain ⟨wa, hwa⟩ : ∃ w, wo.alloc (.cells #[.int .i64 2, .int .i64 1] 33) = w := ⟨_, rfl⟩
              have KA : Below wo.heap.size wo wa := by rw [← hwa]; exact (Below.refl _ _).alloc (Nat.le_refl _) _
              have HG5 : Hid (wa.heap[s5]? = some (.cells #[.int .i64 2, .int .i64 1] 33 (0, 0))) := Lib.hid (by rw [← hwa]; exact heap_at hs5)
              have KA := Lib.hid KA
              clear HX9 HMZ HCD nlt hn
              have e0 : wo.cell? ⟨b, 0, none⟩ = some (.int .i64 P) := HBB.out.c0
              have e1 : wo.cell? ⟨b, 1, none⟩ = some (.int .i64 N) := HBB.out.c1
              have e2 : wo.cell? ⟨b, 2, none⟩ = some (.slice co cn cc) := HBB.out.c2
              have e3 : wo.cell? ⟨b, 3, none⟩ = some (.slice oo on oc) := HBB.out.c3
              go_wp2_with fail
              clear e0 e1 e2 e3 hs5 hwa
              have HBB := Lib.hid (HBB.out.keep KA.out)
              have HM := Lib.hid (om_keep HM.out KA.out)
              (with_reducible refine (COV.out (by first | rfl | trivial) (some ⟨s5, 0, none⟩) 1 1 [(2, 1)] _ HBB.out.at_ (sp_one HG5.out) (by decide)).mono ?_)
              rintro e w21 ⟨⟨v21, x21, k21, rfl, ho, _⟩, q⟩
              obtain rfl : k21 = 50 := by
                rcases ho with ⟨a, _, _⟩ | ⟨a, _⟩ | ⟨a, _⟩
                · exact a
                · exact absurd a bad21
                · exact absurd a bad21
              have HBB := Lib.hid (HBB.out.keep q.out)
              have HM := Lib.hid (om_keep HM.out q.out)
              clear ho q KA HG5
              go_wp2_with (first
                | (at_len; refine wpList_len_own _ rfl _ _ rfl 3 3 Try.underlying51 _ bm nn D rfl HM.out ?_; have hsm := HSM.out; rw [hsm]; clear hsm)
                | (go_at_call 9; (with_reducible refine (HAW.out _).mono ?_); rintro e w22 ⟨rfl, q⟩; have HBB := Lib.hid (HBB.out.keep q); clear q))
              go_returns
              exact ⟨rfl, HBB.out.bw⟩
end Go.Proofs.Ytjhbgedobkpdhaa
