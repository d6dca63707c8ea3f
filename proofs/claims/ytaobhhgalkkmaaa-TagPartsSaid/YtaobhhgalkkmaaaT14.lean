/- TagParts: plainly; the walk. -/
import Derived.Test.YtaobhhgalkkmaaaT13
import Derived.Test.YtaobhhgalkkmaaaT11
import Derived.ArgAppend
import Derived.Laws.OwnMore
import Derived.Maps.AppendAt
namespace Go.Proofs.Ytaobhhgalkkmaaa
set_option linter.unusedVariables false
set_option linter.unusedSimpArgs false
open Go.ChangeShapes Go.WideShapes Go.ChangeAt Go.RowKit
def lenV (v : Value) : Nat := match v with | .slice _ n _ => n | _ => 0
theorem IzAt.take {w : World} {ao : Option Addr} {n c : Nat} {l : List Int} (h : IzAt w ao n c l) (m : Nat) (hm : m ≤ n) : IzAt w ao m c (l.take m) := by
  have hl := h.len
  refine ⟨by rw [List.length_take]; omega, Nat.le_trans hm h.le, h.top, fun h0 => ?_⟩
  obtain ⟨b, p, e, hc⟩ := h.here (by omega)
  refine ⟨b, p, e, fun i hi => ?_⟩
  rw [List.length_take] at hi
  rw [List.getElem_take]
  exact hc i (by omega)
theorem iz_all {w : World} {ao : Option Addr} {n c : Nat} {l : List Int} (h : IzAt w ao n c l) : ∀ b, ao = some b → ∀ j u, (ints l)[j]? = some u → w.cell? (b.add j) = some u := by
  intro b e j u hu
  have hj : j < l.length := by have := (List.getElem?_eq_some_iff.1 hu).1; simpa [ints] using this
  obtain ⟨b', p, e', hc⟩ := h.here (by have := h.len; omega)
  rw [e] at e'; cases e'
  rw [add_off, hc j hj]
  simp [ints, hj] at hu
  rw [hu]
theorem own_nz {w : World} {B n : Nat} {v : Value} {xs : List Value} (h : w.ownsRow B 3 1 v n xs) (h0 : 0 < n) : ∃ g c, v = .slice (some ⟨g, 0, none⟩) n c := by
  rcases h.2 with ⟨_, q⟩ | ⟨g, cap, cur, hv, _⟩
  · have := h.1; rw [q] at this; simp at this; omega
  · exact ⟨g, cap, hv⟩
theorem KsAt.take {w : World} {ao : Option Addr} {n c : Nat} {l : List Cn} (h : KsAt w ao n c l) (m : Nat) (hm : m ≤ n) : KsAt w ao m c (l.take m) := by
  have hl := h.len
  refine ⟨by rw [List.length_take]; omega, Nat.le_trans hm h.le, h.top, fun h0 => ?_⟩
  obtain ⟨b, p, e, hc⟩ := h.here (by omega)
  refine ⟨b, p, e, fun i hi => ?_⟩
  rw [List.length_take] at hi
  rw [List.getElem_take]
  exact hc i (by omega)
theorem KsAt.drop {w : World} {b p n c : Nat} {l : List Cn} (h : KsAt w (some ⟨b, p, none⟩) n c l) (m q : Nat) (hm : m ≤ n) (hq : m < n → q = p + m * 7) : KsAt w (some ⟨b, q, none⟩) (n - m) (c - m) (l.drop m) := by
  have hl := h.len
  have h1 := h.le
  have h2 := h.top
  refine ⟨by rw [List.length_drop]; omega, by omega, by omega, fun h0 => ?_⟩
  obtain ⟨b', p', e, hc⟩ := h.here (by omega)
  cases e
  obtain rfl := hq (by omega)
  refine ⟨b, _, rfl, fun i hi => ?_⟩
  rw [List.length_drop] at hi
  rw [List.getElem_drop]
  have q := hc (m + i) (by omega)
  rw [show p + (m + i) * 7 = p + m * 7 + i * 7 by rw [Nat.add_mul]; omega] at q
  exact q
theorem fl_add (p : Nat → Bool) (a : Nat) : ∀ b : Nat, Fl p (a + b) = Fl p a ++ (Fl (fun i => p (a + i)) b).map (fun i => i + (a : Int))
  | 0 => by simp [Fl]
  | b + 1 => by
    have ih := fl_add p a b
    cases h : p (a + b) with
    | true => rw [← Nat.add_assoc, fl_yes h, ih, fl_yes (p := fun i => p (a + i)) h]; simp; omega
    | false => rw [← Nat.add_assoc, fl_not h, ih, fl_not (p := fun i => p (a + i)) h]
theorem fl_empty {p : Nat → Bool} {k : Nat} : Fl p k = [] ↔ ∀ i, i < k → p i = false := by
  constructor
  · exact fl_nil
  · intro h
    unfold Fl
    rw [List.map_eq_nil_iff, List.filter_eq_nil_iff]
    intro i hi; rw [h i (List.mem_range.1 hi)]; simp
theorem set_two {W : World} {b8 b9 : Nat} {a1 a2 a3 c1 c2 c3 x y : Value} (h8 : W.heap[b8]? = some (.cells #[a1, a2, a3] 38 (0, 0))) (h9 : W.heap[b9]? = some (.cells #[c1, c2, c3] 38 (0, 0))) (ne : ¬ b8 = b9) {B : Nat} (l8 : B ≤ b8) (l9 : B ≤ b9) :
    Below B W (((W.setCell ⟨b8, 2, none⟩ x).setCell ⟨b9, 2, none⟩ y).drew) ∧ (((W.setCell ⟨b8, 2, none⟩ x).setCell ⟨b9, 2, none⟩ y).drew).heap[b8]? = some (.cells #[a1, a2, x] 38 (0, 0)) ∧ (((W.setCell ⟨b8, 2, none⟩ x).setCell ⟨b9, 2, none⟩ y).drew).heap[b9]? = some (.cells #[c1, c2, y] 38 (0, 0)) := by
  have q9 : (W.setCell ⟨b8, 2, none⟩ x).heap[b9]? = some (.cells #[c1, c2, c3] 38 (0, 0)) := (Below.heap_setCell W ⟨b8, 2, none⟩ x b9 (fun e => ne e.symm)).trans h9
  refine ⟨(((Below.refl _ W).setCell (p := ⟨b8, 2, none⟩) l8 _).setCell (p := ⟨b9, 2, none⟩) l9 _).drew, ?_, ?_⟩
  · show ((W.setCell ⟨b8, 2, none⟩ x).setCell ⟨b9, 2, none⟩ y).heap[b8]? = _
    rw [Below.heap_setCell _ ⟨b9, 2, none⟩ y b8 (fun e => ne e), set_block h8]; rfl
  · show ((W.setCell ⟨b8, 2, none⟩ x).setCell ⟨b9, 2, none⟩ y).heap[b9]? = _
    rw [set_block q9]; rfl
theorem row_at {w : World} {B n c : Nat} {ao : Option Addr} {xs : List Int} (h : w.ownsRow B 3 1 (.slice ao n c) n (ints xs)) (hl : xs.length = n) : IzAt w ao n c xs := by
  subst hl
  obtain ⟨ao', c', e, hz⟩ := own_iz h
  cases e
  exact hz
theorem row_ne {w : World} {B e s n q : Nat} {v : Value} {xs : List Value} (h : w.ownsRow B e s v n xs) (hq : q < B) : v.ownBlock = none ∨ v.ownBlock ≠ some q := by
  cases h2 : v.ownBlock with
  | none => exact .inl rfl
  | some k => exact .inr (fun z => by cases z; have := (h.lt _ h2).1; omega)
theorem own_apart {u v : Value} {lo hi : Nat} (h : ∀ q, v.ownBlock = some q → q < lo ∨ hi ≤ q) (k : ∀ q, u.ownBlock = some q → lo ≤ q ∧ q < hi) : u.ownBlock = none ∨ u.ownBlock ≠ v.ownBlock := by
  cases e : u.ownBlock with
  | none => exact .inl rfl
  | some q => exact .inr (fun z => by have := h q z.symm; have := k q e; omega)
theorem ks_zero {w : World} {ao : Option Addr} {c : Nat} (h : c ≤ 9223372036854775807) : KsAt w ao 0 c [] := ⟨rfl, Nat.zero_le _, h, fun h0 => absurd h0 (Nat.lt_irrefl _)⟩
theorem net_with {w : World} {v : Int} {fo ko o : Option Addr} {fn fc kn kc n c : Nat} {fs : List Fv} {ks l : List Cn} (h : Nv.At ⟨v, fo, fn, fc, ko, kn, kc, fs, ks⟩ w) (k : KsAt w o n c l) : Nv.At ⟨v, fo, fn, fc, o, n, c, fs, l⟩ w := ⟨h.v1, h.v2, h.forms, k⟩
/-- What Fails answers, in short. -/
theorem fails_short {n : Nv} {ts : List Int} {p : Nat → Bool} {B : Nat} {e : Ending} {w : World} {ro : Bool} (hro : ro = true ↔ Own n.vars ts) (h : FailsOut n ts p B e w) : ∃ v, e = .returned (.tuple #[v, .int .i64 (if ro then 0 else 230)]) ∧ Hid (w.ownsRow B 3 1 v (if ro then Fl p n.kn else []).length (ints (if ro then Fl p n.kn else []))) := by
  obtain ⟨v, xs, k, rfl, hx, ho⟩ := h
  rcases hx with ⟨no, rfl, rfl⟩ | ⟨yes, rfl, rfl⟩
  · have : ro = false := by cases ro with | false => rfl | true => exact absurd (hro.1 rfl) no
    subst this; exact ⟨v, rfl, ho⟩
  · have := hro.2 yes
    subst this; exact ⟨v, rfl, ho⟩
theorem holds_fl {n : Nv} {ts : List Int} {p : Nat → Bool} (hp : ∀ i (h : i < n.ks.length), p i = true ↔ ¬ Met n.fs n.vars ts n.ks[i]) (hl : n.ks.length = n.kn) (ow : Own n.vars ts) : HoldsN n ts ↔ Fl p n.kn = [] := by
  rw [fl_empty]
  constructor
  · rintro ⟨_, h⟩ i hi
    have hi2 : i < n.ks.length := by omega
    cases e : p i with
    | false => rfl
    | true => exact absurd (h _ (List.getElem_mem hi2)) ((hp i hi2).1 e)
  · intro h
    refine ⟨ow, fun c hc => ?_⟩
    obtain ⟨i, hi, rfl⟩ := List.getElem_of_mem hc
    have q := h i (by omega)
    exact Classical.byContradiction (fun z => by rw [(hp i hi).2 z] at q; cases q)
def TkOut (w0 : World) (nv : Nat) (s : Value) (wx : World) : Prop := ∃ (ao : Option Addr) (c : Nat) (T : List Int), s = .slice ao nv c ∧ Hid (IzAt wx ao nv c T) ∧ Hid (Below w0.heap.size w0 wx)
set_option maxRecDepth 8000 in
set_option maxHeartbeats 8000000 in
theorem parts_walk (n : Nv) (ao : Option Addr) (tn tc : Nat) (ts : List Int) (m : Int) (w : World) (hn : n.At w) (hkz : n.ko = none → n.kn = 0 ∧ n.kc = 0) (ht : IzAt w ao tn tc ts) (hnz : ao = none → tn = 0 ∧ tc = 0) (m1 : 0 ≤ m) (m2 : m ≤ 255) : Calls Try.prog 5 #[n.v, .slice ao tn tc, .int .u8 m] w fun e w' => e = .returned (.bool true) ∧ Below w.heap.size w w' := by
  have HAW := Lib.hid (fun W => awake_any W)
  have CFW := Lib.hid (fun W (h : n.At W) => few_any n W h)
  obtain ⟨vars, fo, fn, fc, ko, kn, kc, fs, ks⟩ := n
  have HNA : Hid (Nv.At ⟨vars, fo, fn, fc, ko, kn, kc, fs, ks⟩ w) := Lib.hid hn
  have HKZ : Hid (ko = none → kn = 0 ∧ kc = 0) := Lib.hid hkz
  have HT := Lib.hid ht
  have HNZ := Lib.hid hnz
  have hfn : fn ≤ 9223372036854775807 := Nat.le_trans hn.forms.le hn.forms.top
  have hkn1 : kn ≤ kc := hn.cons.le
  have hkc : kc ≤ 9223372036854775807 := hn.cons.top
  have htn : tn ≤ 9223372036854775807 := Nat.le_trans ht.le ht.top
  clear hn hkz ht hnz
  obtain ⟨b, hb⟩ : ∃ b, w.heap.size = b := ⟨_, rfl⟩
  obtain ⟨wb, hwb⟩ : ∃ wb, w.alloc (.cells #[.int .i64 vars, .slice fo fn fc, .slice ko kn kc] 38) = wb := ⟨_, rfl⟩
  have HW : Hid (Below w.heap.size w wb) := Lib.hid (by rw [← hwb]; exact (Below.refl _ _).alloc (Nat.le_refl _) _)
  have HN : Hid (wb.heap[b]? = some (.cells #[.int .i64 vars, .slice fo fn fc, .slice ko kn kc] 38 (0, 0))) := Lib.hid (by rw [← hwb]; exact heap_at hb)
  have HNA := Lib.hid (HNA.out.keep HW.out)
  have HT := Lib.hid (HT.out.keep HW.out)
  show Calls Try.prog 5 #[.agg #[.int .i64 vars, .slice fo fn fc, .slice ko kn kc], .slice ao tn tc, .int .u8 m] w _
  go_enter Try.func5, Try.ntmps5
  go_upto_region 1 with fail
  clear hwb hb
  have e0 : wb.cell? ⟨b, 0, none⟩ = some (.int .i64 vars) := cell_block HN.out 0
  have e1 : wb.cell? ⟨b, 1, none⟩ = some (.slice fo fn fc) := cell_block HN.out 1
  have e2 : wb.cell? ⟨b, 2, none⟩ = some (.slice ko kn kc) := cell_block HN.out 2
  go_wp2_with fail
  (with_reducible refine (CFW.out _ HNA.out).mono ?_)
  rintro e w1 ⟨⟨rf, rfl, hfew⟩, q⟩
  have HFEW := Lib.hid hfew
  have HW := Lib.hid (HW.out.trans (q.out.mono HW.out.size))
  have HN := Lib.hid (heap_keep HN.out q.out)
  have HNA := Lib.hid (HNA.out.keep q.out)
  have HT := Lib.hid (HT.out.keep q.out)
  clear q hfew e0 e1 e2 CFW
  cases rf
  · clear HFEW
    go_wp2_with fail
    (with_reducible refine (HAW.out _).mono ?_)
    rintro e w9 ⟨rfl, q⟩
    have HW := Lib.hid (HW.out.trans (q.mono HW.out.size))
    clear q
    go_wp2
    go_returns
    exact ⟨rfl, HW.out⟩
  · have HFW := Lib.hid (HFEW.out (by first | rfl | trivial))
    obtain ⟨nv, hnv⟩ := Int.eq_ofNat_of_zero_le HFW.out.2.2.2.2.1.1
    obtain rfl : vars = (nv : Int) := hnv
    have hnv8 : nv ≤ 8 := by have := HFW.out.2.2.1; simp only at this; omega
    have hkn8 : kn ≤ 8 := HFW.out.2.1
    have HRT : Hid (∀ F ∈ fs, F.Rt ∧ F.Ok ∧ F.cn ≤ 10000) := Lib.hid (fun F hF => by
      have h1 := HFW.out.2.2.2.1 F hF
      have h2 := HFW.out.2.2.2.2.2.2.2.2 F hF
      exact ⟨h2, h2.ok h1, Nat.le_trans h1.1 (by decide)⟩)
    clear HFEW HFW
    obtain ⟨i0, hi0, hz0, hz1, hz2⟩ := info_parts info3
    have HI3 := Lib.hid hi0
    have HZ0 := Lib.hid hz0
    have HZ1 := Lib.hid hz1
    have HZ2 := Lib.hid hz2
    clear hi0 hz0 hz1 hz2
    go_wp2
    go_loopw [1] (fun s1 wr => ∃ (xo : Option Addr) (xn xc : Nat) (T : List Int), s1 = .slice xo xn xc ∧ Hid (IzAt wr xo xn xc T) ∧ Hid (xo = none → xn = 0 ∧ xc = 0) ∧ Hid (Below w1.heap.size w1 wr)) (fun s1 _ => nv - lenV s1)
    case atStart => exact ⟨_, _, _, _, rfl, HT, HNZ, Lib.hid (Below.refl _ _)⟩
    case round =>
      clear HT HNZ
      obtain ⟨xo, xn, xc, X, rfl, HX, HXZ, HB⟩ := hrel
      have hxc : xn ≤ xc := HX.out.le
      have hxt : xc ≤ 9223372036854775807 := HX.out.top
      have HN2 := Lib.hid (heap_keep HN.out HB.out)
      have e0 : wr.cell? ⟨b, 0, none⟩ = some (.int .i64 (nv : Int)) := cell_block HN2.out 0
      have e1 : wr.cell? ⟨b, 1, none⟩ = some (.slice fo fn fc) := cell_block HN2.out 1
      have e2 : wr.cell? ⟨b, 2, none⟩ = some (.slice ko kn kc) := cell_block HN2.out 2
      by_cases hlt : xn < nv
      · have G2 := Lib.hid (iz_all (HX.out.keep ((Below.refl _ wr).alloc (Nat.le_refl _) (.cells #[.int .i64 0] 3))))
        have HLX := Lib.hid HX.out.len
        go_wp2_with (at_builtin; refine wpList_append_grows _ rfl _ _ 39 rfl 3 i0 (.int .i64 0) 1 8 Try.underlying39 HI3.out HZ0.out HZ1.out HZ2.out rfl (by decide) xo xn xn (ints X) (by rfl) (fun e => ⟨(HXZ.out e).1, (HXZ.out e).1⟩) (by simp [ints]; exact HLX.out) G2.out ⟨wr.heap.size, 0, none⟩ 1 1 [.int .i64 0] rfl rfl (World.news_of_block (cs := #[.int .i64 0]) (t := 3) (fr := (0, 0)) (World.alloc_heap_new wr _)) (by intro y hy; simp at hy; subst hy; rfl) (by omega) (by unfold maxLen; omega) (by omega) ?_; intro v' w8 hown hgrow; obtain ⟨g', c', rfl⟩ := own_nz hown (by omega); have HY : Hid (IzAt w8 (some ⟨g', 0, none⟩) (xn + 1) c' (X ++ [0])) := Lib.hid (row_at (xs := X ++ [0]) (by rw [← ints_snoc]; exact hown) (by rw [List.length_append, HLX.out]; rfl)); have HB8 := Lib.hid ((HB.out.alloc HB.out.size (.cells #[.int .i64 0] 3)).grown hgrow (by have := HB.out.size; simp; omega) (fun q e => by cases e)); clear hown hgrow)
        go_roundw
        case rel => exact ⟨_, _, _, _, rfl, HY, Lib.hid (fun e => by cases e), HB8⟩
        case measure => simp [lenV]; omega
      · have h2 : (nv : Int) ≤ (xc : Int) := by omega
        have h3 : (0 : Int) ≤ (nv : Int) := by omega
        have HTT := Lib.hid (HX.out.take nv (by omega))
        obtain ⟨w2, hw2⟩ : ∃ v : World, v = wr := ⟨_, rfl⟩
        subst hw2
        go_upto_region 5 with fail
        go_cut [1] from 35 to 38 (fun s1 wx => TkOut w2 nv s1 wx)
        case first =>
          cases xo with
          | none =>
            obtain ⟨rfl, rfl⟩ := HXZ.out rfl
            obtain rfl : nv = 0 := by omega
            go_wp2
            go_meet
            case rel => exact ⟨_, _, _, rfl, HTT, Lib.hid (Below.refl _ _)⟩
          | some a =>
            go_wp2
            go_meet
            case rel => exact ⟨_, _, _, rfl, HTT, Lib.hid (Below.refl _ _)⟩
        case rest =>
          obtain ⟨tao, tk, T, rfl, HTK, HB2⟩ := hcut
          have KX := Lib.hid (HB.out.trans (HB2.out.mono HB.out.size))
          have HW := Lib.hid (HW.out.trans (KX.out.mono HW.out.size))
          have HN := Lib.hid (heap_keep HN.out KX.out)
          have HNA := Lib.hid (HNA.out.keep KX.out)
          clear HB HB2 KX HX HXZ HN2 HTT e0 e1 e2 h2 h3 hlt
          obtain ⟨v1, hv1⟩ : ∃ v : World, v = wc := ⟨_, rfl⟩
          subst hv1
          obtain ⟨k, hk⟩ : ∃ k : Nat, m % ((kn : Int) + 1) = (k : Int) := Int.eq_ofNat_of_zero_le (Int.emod_nonneg _ (by omega))
          have hkk : k ≤ kn := by have := Int.emod_lt_of_pos m (b := (kn : Int) + 1) (by omega); omega
          have d1 : ¬ ((kn : Int) + 1 = 0) := by omega
          have d2 : ((kn : Int) + 1 == 0) = false := by simp; omega
          have d3 : ¬ ((kn : Int) + 1 = -1) := by omega
          have e0 : v1.cell? ⟨b, 0, none⟩ = some (.int .i64 (nv : Int)) := cell_block HN.out 0
          have e1 : v1.cell? ⟨b, 1, none⟩ = some (.slice fo fn fc) := cell_block HN.out 1
          have e2 : v1.cell? ⟨b, 2, none⟩ = some (.slice ko kn kc) := cell_block HN.out 2
          go_upto_region 7 with fail
          rw [hk]
          clear hk d1 d2 d3
          have HLT : Hid (b < v1.heap.size) := Lib.hid (Array.getElem?_eq_some_iff.1 HN.out).1
          go_cut [8, 9] from 46 to 47 (fun s8 s9 wx => ∃ b8 b9, s8 = .pointer (some ⟨b8, 0, none⟩) ∧ s9 = .pointer (some ⟨b9, 0, none⟩) ∧ Hid (Below v1.heap.size v1 wx ∧ wx.heap[b8]? = some (.cells #[.int .i64 (nv : Int), .slice fo fn fc, .slice ko kn kc] 38 (0, 0)) ∧ wx.heap[b9]? = some (.cells #[.int .i64 (nv : Int), .slice fo fn fc, .slice ko kn kc] 38 (0, 0)) ∧ ¬ b8 = b9 ∧ v1.heap.size ≤ b8 ∧ v1.heap.size ≤ b9))
          case first =>
            obtain ⟨n5, hn5⟩ : ∃ n, v1.heap.size = n := ⟨_, rfl⟩
            have m1 : b < n5 := by have := HLT.out; omega
            have m2 : ¬ b = n5 := by omega
            have m3 : ¬ b = n5 + 1 := by omega
            have m5 : ¬ n5 = b := by omega
            have m6 : ¬ n5 + 1 = b := by omega
            clear HLT
            go_region
            all_goals
              go_wp2
              go_meet
              case rel =>
                refine ⟨_, _, rfl, rfl, Lib.hid ?_⟩
                obtain ⟨t0, t1, t2⟩ := two hn5 _ _
                first | exact ⟨t0, t1, t2, by omega, by omega, by omega⟩ | exact ⟨t0, t2, t1, by omega, by omega, by omega⟩
          case rest =>
            obtain ⟨b8, b9, rfl, rfl, HQ⟩ := hcut
            obtain ⟨v2, hv2⟩ : ∃ v : World, v = wc := ⟨_, rfl⟩
            subst hv2
            have HN8 := Lib.hid HQ.out.2.1
            have HN9 := Lib.hid HQ.out.2.2.1
            have HNB := Lib.hid (heap_keep HN.out HQ.out.1)
            have HNE : Hid (¬ b8 = b9 ∧ b < b8 ∧ b < b9 ∧ v1.heap.size ≤ b8 ∧ v1.heap.size ≤ b9) := Lib.hid (by have := HQ.out.2.2.2; have := HLT.out; omega)
            have K1 := Lib.hid HQ.out.1
            clear HQ HLT e0 e1 e2
            go_upto_region 8 with fail
            have LK : Hid (ks.length = kn) := Lib.hid HNA.out.cons.len
            go_cut [9] from 48 to 57 (fun s9 wx => ∃ (o1 o2 : Option Addr) (c1 c2 : Nat), s9 = .pointer (some ⟨b9, 0, none⟩) ∧ Hid (Below v1.heap.size v2 wx ∧ wx.heap[b8]? = some (.cells #[.int .i64 (nv : Int), .slice fo fn fc, .slice o1 k c1] 38 (0, 0)) ∧ wx.heap[b9]? = some (.cells #[.int .i64 (nv : Int), .slice fo fn fc, .slice o2 (kn - k) c2] 38 (0, 0)) ∧ KsAt v1 o1 k c1 (ks.take k) ∧ KsAt v1 o2 (kn - k) c2 (ks.drop k)))
            case first =>
              have e2 : v2.cell? ⟨b, 2, none⟩ = some (.slice ko kn kc) := cell_block HNB.out 2
              have p8 : v2.cell? ⟨b8, 2, none⟩ = some (.slice ko kn kc) := cell_block HN8.out 2
              have p9 : v2.cell? ⟨b9, 2, none⟩ = some (.slice ko kn kc) := cell_block HN9.out 2
              have c8 : v2.frozen? ⟨b8, 2, none⟩ = false := free_blk HN8.out 2
              have c9 : v2.frozen? ⟨b9, 2, none⟩ = false := free_blk HN9.out 2
              have m1 : ¬ b = b8 := by have := HNE.out; omega
              have m2 : ¬ b8 = b := by have := HNE.out; omega
              have m3 : ¬ b = b9 := by have := HNE.out; omega
              have m4 : ¬ b9 = b := by have := HNE.out; omega
              have m5 : ¬ b8 = b9 := HNE.out.1
              have m6 : ¬ b9 = b8 := fun z => HNE.out.1 z.symm
              have q1 : (0 : Int) ≤ (k : Int) := by omega
              have q2 : (k : Int) ≤ (kc : Int) := by omega
              have q3 : (k : Int) ≤ (kn : Int) := by omega
              have HKA := Lib.hid HNA.out.cons
              by_cases k0 : kn = 0
              · subst k0
                obtain rfl : k = 0 := by omega
                obtain rfl : ks = [] := List.eq_nil_of_length_eq_zero LK.out
                cases ko with
                | none =>
                  obtain ⟨_, rfl⟩ := HKZ.out rfl
                  go_region
                  all_goals
                    go_wp2
                    go_meet
                    case rel =>
                      refine ⟨none, none, 0, 0, rfl, Lib.hid ?_⟩
                      first
                        | (obtain ⟨t0, t1, t2⟩ := set_two HN8.out HN9.out m5 HNE.out.2.2.2.1 HNE.out.2.2.2.2; exact ⟨t0, t1, t2, ks_zero (by omega), ks_zero (by omega)⟩)
                        | (obtain ⟨t0, t1, t2⟩ := set_two HN9.out HN8.out m6 HNE.out.2.2.2.2 HNE.out.2.2.2.1; exact ⟨t0, t2, t1, ks_zero (by omega), ks_zero (by omega)⟩)
                | some a =>
                  by_cases kz : kc = 0
                  · subst kz
                    go_region
                    all_goals
                      go_wp2
                      go_meet
                      case rel =>
                        refine ⟨some a, some a, 0, 0, rfl, Lib.hid ?_⟩
                        first
                          | (obtain ⟨t0, t1, t2⟩ := set_two HN8.out HN9.out m5 HNE.out.2.2.2.1 HNE.out.2.2.2.2; exact ⟨t0, t1, t2, ks_zero (by omega), ks_zero (by omega)⟩)
                          | (obtain ⟨t0, t1, t2⟩ := set_two HN9.out HN8.out m6 HNE.out.2.2.2.2 HNE.out.2.2.2.1; exact ⟨t0, t2, t1, ks_zero (by omega), ks_zero (by omega)⟩)
                  · have q4 : ¬ (kc : Int) = 0 := by omega
                    have q5 : ¬ kc = 0 := kz
                    have q6 : ((kc : Int) == 0) = false := by simp; omega
                    go_region
                    all_goals
                      go_wp2
                      go_meet
                      case rel =>
                        refine ⟨some a, some a, kc, kc, rfl, Lib.hid ?_⟩
                        first
                          | (obtain ⟨t0, t1, t2⟩ := set_two HN8.out HN9.out m5 HNE.out.2.2.2.1 HNE.out.2.2.2.2; exact ⟨t0, t1, t2, ks_zero (by omega), ks_zero (by omega)⟩)
                          | (obtain ⟨t0, t1, t2⟩ := set_two HN9.out HN8.out m6 HNE.out.2.2.2.2 HNE.out.2.2.2.1; exact ⟨t0, t2, t1, ks_zero (by omega), ks_zero (by omega)⟩)
              · obtain ⟨kb, kp, e1, _⟩ := HKA.out.here (show 0 < kn by omega)
                obtain rfl : ko = some ⟨kb, kp, none⟩ := e1
                by_cases kz : kc = k
                · subst kz
                  obtain rfl : kn = kc := by omega
                  go_region
                  all_goals
                    go_wp2
                    go_meet
                    case rel =>
                      rw [Nat.sub_self]
                      refine ⟨some ⟨kb, kp, none⟩, some ⟨kb, kp, none⟩, kn, 0, rfl, Lib.hid ?_⟩
                      first
                        | (obtain ⟨t0, t1, t2⟩ := set_two HN8.out HN9.out m5 HNE.out.2.2.2.1 HNE.out.2.2.2.2; exact ⟨t0, t1, t2, HKA.out.take _ (by omega), (by have q := HKA.out.drop kn kp (by omega) (by omega); rwa [Nat.sub_self] at q)⟩)
                        | (obtain ⟨t0, t1, t2⟩ := set_two HN9.out HN8.out m6 HNE.out.2.2.2.2 HNE.out.2.2.2.1; exact ⟨t0, t2, t1, HKA.out.take _ (by omega), (by have q := HKA.out.drop kn kp (by omega) (by omega); rwa [Nat.sub_self] at q)⟩)
                · have q4 : ¬ (kc : Int) = (k : Int) := by omega
                  have q5 : ¬ (k : Int) = (kc : Int) := by omega
                  have q7 : ¬ k = kc := fun z => kz z.symm
                  go_region
                  all_goals
                    go_wp2
                    go_meet
                    case rel =>
                      refine ⟨some ⟨kb, kp, none⟩, some ⟨kb, kp + k * 7, none⟩, kc, kc - k, rfl, Lib.hid ?_⟩
                      first
                        | (obtain ⟨t0, t1, t2⟩ := set_two HN8.out HN9.out m5 HNE.out.2.2.2.1 HNE.out.2.2.2.2; exact ⟨t0, t1, t2, HKA.out.take _ (by omega), HKA.out.drop k _ (by omega) (by intro _; rfl)⟩)
                        | (obtain ⟨t0, t1, t2⟩ := set_two HN9.out HN8.out m6 HNE.out.2.2.2.2 HNE.out.2.2.2.1; exact ⟨t0, t2, t1, HKA.out.take _ (by omega), HKA.out.drop k _ (by omega) (by intro _; rfl)⟩)
            case rest =>
              obtain ⟨o1, o2, c1, c2, rfl, HQ⟩ := hcut
              obtain ⟨v4, hv4⟩ : ∃ v : World, v = wc := ⟨_, rfl⟩
              subst hv4
              have KV : Hid (Below v1.heap.size v1 v4) := Lib.hid (K1.out.trans HQ.out.1)
              have HW4 := Lib.hid (HW.out.trans (KV.out.mono HW.out.size))
              have HB0 := Lib.hid (heap_keep HN.out KV.out)
              have HB8 := Lib.hid HQ.out.2.1
              have HB9 := Lib.hid HQ.out.2.2.1
              have HA0 : Hid (Nv.At ⟨(nv : Int), fo, fn, fc, ko, kn, kc, fs, ks⟩ v4) := Lib.hid (HNA.out.keep KV.out)
              have HA1 : Hid (Nv.At ⟨(nv : Int), fo, fn, fc, o1, k, c1, fs, ks.take k⟩ v4) := Lib.hid (net_with HA0.out (HQ.out.2.2.2.1.keep KV.out))
              have HA2 : Hid (Nv.At ⟨(nv : Int), fo, fn, fc, o2, kn - k, c2, fs, ks.drop k⟩ v4) := Lib.hid (net_with HA0.out (HQ.out.2.2.2.2.keep KV.out))
              have HTK := Lib.hid (HTK.out.keep KV.out)
              clear HQ K1 HN8 HN9 HNB HNE HN HNA HW KV
              obtain ⟨p, hp⟩ : ∃ p : Nat → Bool, ∀ i (h : i < ks.length), p i = true ↔ ¬ Met fs (nv : Int) T ks[i] := by
                classical
                exact ⟨fun i => decide (∀ h : i < ks.length, ¬ Met fs (nv : Int) T ks[i]), fun i h => by rw [decide_eq_true_iff]; exact ⟨fun z => z h, fun z _ => z⟩⟩
              have HPP := Lib.hid hp
              clear hp
              obtain ⟨ro, hro⟩ : ∃ r : Bool, r = true ↔ Own (nv : Int) T := by classical exact ⟨decide _, decide_eq_true_iff⟩
              have HRO := Lib.hid hro
              clear hro
              obtain ⟨kk, hkk2⟩ : ∃ kk : Int, (if ro then 0 else 230) = kk := ⟨_, rfl⟩
              have HKK := Lib.hid hkk2
              obtain ⟨L0, hL0⟩ : ∃ A, (if ro then Fl p kn else []) = A := ⟨_, rfl⟩
              obtain ⟨L1, hL1⟩ : ∃ A, (if ro then Fl p k else []) = A := ⟨_, rfl⟩
              obtain ⟨L2, hL2⟩ : ∃ A, (if ro then Fl (fun i => p (k + i)) (kn - k) else []) = A := ⟨_, rfl⟩
              have HL0 := Lib.hid hL0
              have HL1 := Lib.hid hL1
              have HL2 := Lib.hid hL2
              obtain ⟨n0, hn0⟩ : ∃ n, L0.length = n := ⟨_, rfl⟩
              obtain ⟨n1, hn1⟩ : ∃ n, L1.length = n := ⟨_, rfl⟩
              obtain ⟨n2, hn2⟩ : ∃ n, L2.length = n := ⟨_, rfl⟩
              have HEd := Lib.hid hn0
              have HEa := Lib.hid hn1
              have HEc := Lib.hid hn2
              have HSUM : Hid (L0 = L1 ++ L2.map (fun i => i + (k : Int))) := Lib.hid (by
                rw [← hL0, ← hL1, ← hL2]
                cases ro with
                | false => rfl
                | true =>
                  have q := fl_add p k (kn - k)
                  rw [show k + (kn - k) = kn by omega] at q
                  exact q)
              have HLN : Hid (L1.length ≤ 8 ∧ L2.length ≤ 8) := Lib.hid (by
                rw [← hL1, ← hL2]
                cases ro with
                | false => simp
                | true => have := fl_len p k; have := fl_len (fun i => p (k + i)) (kn - k); simp only [if_true]; omega)
              have HBD : Hid (∀ x ∈ L2, 0 ≤ x ∧ x ≤ 8) := Lib.hid (fun x hx => by
                rw [← hL2] at hx
                cases ro with
                | false => cases hx
                | true =>
                  obtain ⟨i, hi, rfl⟩ := List.mem_map.1 hx
                  have := List.mem_range.1 (List.mem_filter.1 hi).1
                  omega)
              have l1 : n1 ≤ 8 := by rw [← hn1]; exact HLN.out.1
              have l2 : n2 ≤ 8 := by rw [← hn2]; exact HLN.out.2
              clear hkk2 hL0 hL1 hL2 hn0 hn1 hn2
              have CF1 : Hid (∀ W, Below v4.heap.size v4 W → Calls Try.prog 13 #[.agg #[.int .i64 (nv : Int), .slice fo fn fc, .slice o1 k c1], .slice tao nv tk] W fun e w' => ∃ v, e = .returned (.tuple #[v, .int .i64 kk]) ∧ Hid (w'.ownsRow W.heap.size 3 1 v L1.length (ints L1)) ∧ Hid (Below W.heap.size W w')) := Lib.hid (fun W h => (fails_any ⟨(nv : Int), fo, fn, fc, o1, k, c1, fs, ks.take k⟩ tao nv tk T W (HA1.out.keep h) (HTK.out.keep h) HRT.out (show k ≤ 1000000 by omega) p (fun i hi => by have hi2 : i < ks.length := (by simp only [List.length_take] at hi; omega); have q := HPP.out i hi2; rw [q]; simp only [List.getElem_take])).mono (by
                rintro e w' ⟨h1, h2⟩
                obtain ⟨v, e1, e2⟩ := fails_short (ro := ro) HRO.out h1
                have e3 := HKK.out
                have e4 := HL1.out
                simp only at e1 e2
                rw [e3] at e1
                rw [e4] at e2
                exact ⟨v, e1, e2, h2⟩))
              have CF2 : Hid (∀ W, Below v4.heap.size v4 W → Calls Try.prog 13 #[.agg #[.int .i64 (nv : Int), .slice fo fn fc, .slice o2 (kn - k) c2], .slice tao nv tk] W fun e w' => ∃ v, e = .returned (.tuple #[v, .int .i64 kk]) ∧ Hid (w'.ownsRow W.heap.size 3 1 v L2.length (ints L2)) ∧ Hid (Below W.heap.size W w')) := Lib.hid (fun W h => (fails_any ⟨(nv : Int), fo, fn, fc, o2, kn - k, c2, fs, ks.drop k⟩ tao nv tk T W (HA2.out.keep h) (HTK.out.keep h) HRT.out (show kn - k ≤ 1000000 by omega) (fun i => p (k + i)) (fun i hi => by have hi2 : k + i < ks.length := (by simp only [List.length_drop] at hi; omega); have q := HPP.out (k + i) hi2; rw [q]; simp only [List.getElem_drop])).mono (by
                rintro e w' ⟨h1, h2⟩
                obtain ⟨v, e1, e2⟩ := fails_short (ro := ro) HRO.out h1
                have e3 := HKK.out
                have e4 := HL2.out
                simp only at e1 e2
                rw [e3] at e1
                rw [e4] at e2
                exact ⟨v, e1, e2, h2⟩))
              have CF0 : Hid (∀ W, Below v4.heap.size v4 W → Calls Try.prog 13 #[.agg #[.int .i64 (nv : Int), .slice fo fn fc, .slice ko kn kc], .slice tao nv tk] W fun e w' => ∃ v, e = .returned (.tuple #[v, .int .i64 kk]) ∧ Hid (w'.ownsRow W.heap.size 3 1 v L0.length (ints L0)) ∧ Hid (Below W.heap.size W w')) := Lib.hid (fun W h => (fails_any ⟨(nv : Int), fo, fn, fc, ko, kn, kc, fs, ks⟩ tao nv tk T W (HA0.out.keep h) (HTK.out.keep h) HRT.out (show kn ≤ 1000000 by omega) p (fun i hi => HPP.out i hi)).mono (by
                rintro e w' ⟨h1, h2⟩
                obtain ⟨v, e1, e2⟩ := fails_short (ro := ro) HRO.out h1
                have e3 := HKK.out
                have e4 := HL0.out
                simp only at e1 e2
                rw [e3] at e1
                rw [e4] at e2
                exact ⟨v, e1, e2, h2⟩))
              have e0 : v4.cell? ⟨b8, 0, none⟩ = some (.int .i64 (nv : Int)) := cell_block HB8.out 0
              have e1 : v4.cell? ⟨b8, 1, none⟩ = some (.slice fo fn fc) := cell_block HB8.out 1
              have e2 : v4.cell? ⟨b8, 2, none⟩ = some (.slice o1 k c1) := cell_block HB8.out 2
              go_wp2_with fail
              (with_reducible refine (CF1.out _ (Below.refl _ _)).mono ?_)
              rintro e w5 ⟨ua, rfl, ho, q⟩
              obtain ⟨aad, acp, e9, _⟩ := own_iz ho.out
              have ho2 := ho.out
              rw [HEa.out] at e9 ho2
              subst e9
              have HRa := Lib.hid ho2
              have HQa := Lib.hid (fun q e => (ho2.lt q e))
              have KC := Lib.hid q.out
              have SZa := Lib.hid q.out.size
              clear q ho ho2 e0 e1 e2 CF1
              have e0 : w5.cell? ⟨b9, 0, none⟩ = some (.int .i64 (nv : Int)) := cell_block (heap_keep HB9.out KC.out) 0
              have e1 : w5.cell? ⟨b9, 1, none⟩ = some (.slice fo fn fc) := cell_block (heap_keep HB9.out KC.out) 1
              have e2 : w5.cell? ⟨b9, 2, none⟩ = some (.slice o2 (kn - k) c2) := cell_block (heap_keep HB9.out KC.out) 2
              go_wp2_with fail
              (with_reducible refine (CF2.out _ (KC.out)).mono ?_)
              rintro e w6 ⟨uc, rfl, ho, q⟩
              obtain ⟨cad, ccp, e9, _⟩ := own_iz ho.out
              have ho2 := ho.out
              rw [HEc.out] at e9 ho2
              subst e9
              have HRc := Lib.hid ho2
              have HQc := Lib.hid (fun q e => (ho2.lt q e))
              have KC := Lib.hid (KC.out.trans (q.out.mono KC.out.size))
              have HRa := Lib.hid (keepB HRa.out q.out)
              have SZc := Lib.hid q.out.size
              clear q ho ho2 e0 e1 e2 CF2
              have e0 : w6.cell? ⟨b, 0, none⟩ = some (.int .i64 (nv : Int)) := cell_block (heap_keep HB0.out KC.out) 0
              have e1 : w6.cell? ⟨b, 1, none⟩ = some (.slice fo fn fc) := cell_block (heap_keep HB0.out KC.out) 1
              have e2 : w6.cell? ⟨b, 2, none⟩ = some (.slice ko kn kc) := cell_block (heap_keep HB0.out KC.out) 2
              go_wp2_with fail
              (with_reducible refine (CF0.out _ (KC.out)).mono ?_)
              rintro e w7 ⟨ud, rfl, ho, q⟩
              obtain ⟨dad, dcp, e9, _⟩ := own_iz ho.out
              have ho2 := ho.out
              rw [HEd.out] at e9 ho2
              subst e9
              have HRd := Lib.hid ho2
              have HQd := Lib.hid (fun q e => (ho2.lt q e))
              have KC := Lib.hid (KC.out.trans (q.out.mono KC.out.size))
              have HRa := Lib.hid (keepB HRa.out q.out)
              have HRc := Lib.hid (keepB HRc.out q.out)
              have SZd := Lib.hid q.out.size
              clear q ho ho2 e0 e1 e2 CF0
              have HNA2 : Hid (∀ q, (Value.slice aad n1 acp).ownBlock = some q → q < w5.heap.size ∨ w7.heap.size ≤ q) := Lib.hid (fun q e => .inl (HQa.out q e).2)
              have HSC : Hid (∀ q, (Value.slice cad n2 ccp).ownBlock = some q → w5.heap.size ≤ q ∧ q < w7.heap.size) := Lib.hid (fun q e => (HRc.out.lt q e))
              have HSD : Hid (∀ q, (Value.slice dad n0 dcp).ownBlock = some q → w5.heap.size ≤ q ∧ q < w7.heap.size) := Lib.hid (fun q e => by have := HRd.out.lt q e; have := SZc.out; omega)
              clear HQa HQc HQd
              go_wp2
              go_loopw [10, 86] (fun s10 s86 wr => ∃ (j : Nat) (vv : Value), j ≤ n2 ∧ s86 = .int .i64 j ∧ vv = s10 ∧ Hid (wr.ownsRow v4.heap.size 3 1 s10 (L1 ++ (L2.take j).map (fun i => i + (k : Int))).length (ints (L1 ++ (L2.take j).map (fun i => i + (k : Int))))) ∧ Hid (∀ q, s10.ownBlock = some q → q < w5.heap.size ∨ w7.heap.size ≤ q) ∧ Hid (wr.ownsRow w5.heap.size 3 1 (.slice cad n2 ccp) n2 (ints L2)) ∧ Hid (wr.ownsRow w6.heap.size 3 1 (.slice dad n0 dcp) n0 (ints L0)) ∧ Hid (Below v4.heap.size v4 wr) ∧ Hid (w7.heap.size ≤ wr.heap.size)) (fun _ s86 _ => n2 - (intOf s86).toNat)
              case atStart => exact ⟨0, _, Nat.zero_le _, rfl, rfl, Lib.hid (by have := HRa.out; simp only [List.take_zero, List.map_nil, List.append_nil, HEa.out]; exact this), HNA2, HRc, HRd, KC, Lib.hid (Nat.le_refl _)⟩
              case round =>
                clear HRa HRc HRd KC HNA2
                obtain ⟨j, vv, hj, rfl, hvv, HO, HON, HRc, HRd, HX, HZ7⟩ := hrel
                subst hvv
                by_cases jlt : j < n2
                · obtain ⟨gc, pc, e9, hc⟩ := (row_at HRc.out HEc.out).here (by omega)
                  obtain rfl : cad = some ⟨gc, pc, none⟩ := e9
                  have hjl : j < L2.length := by rw [HEc.out]; exact jlt
                  have c1 := hc j hjl
                  have HXB := Lib.hid (HBD.out L2[j] (List.getElem_mem hjl))
                  have HTJ : Hid ((L2.take (j + 1)).map (fun i => i + (k : Int)) = (L2.take j).map (fun i => i + (k : Int)) ++ [L2[j] + (k : Int)]) := Lib.hid (by rw [List.take_succ_eq_append_getElem hjl, List.map_append]; rfl)
                  obtain ⟨x, hx⟩ : ∃ x, L2[j] = x := ⟨_, rfl⟩
                  rw [hx] at c1 HXB HTJ
                  have x1 := HXB.out.1
                  have x2 := HXB.out.2
                  obtain ⟨A, hA⟩ : ∃ A, L1 ++ (L2.take j).map (fun i => i + (k : Int)) = A := ⟨_, rfl⟩
                  have HAJ : Hid (L1 ++ (L2.take (j + 1)).map (fun i => i + (k : Int)) = A ++ [x + (k : Int)]) := Lib.hid (by rw [HTJ.out, ← List.append_assoc, hA])
                  rw [hA] at HO
                  have hal : A.length ≤ 16 := by rw [← hA, List.length_append, List.length_map, List.length_take, HEa.out]; omega
                  have HVB := Lib.hid HX.out.size
                  have j0 : (0 : Int) ≤ (j : Int) := by omega
                  have j1 : (j : Int) < (n2 : Int) := by omega
                  clear hc hx hA hjl
                  go_wp2_with (at_builtin; refine wpList_append_own_at _ rfl _ _ 39 rfl v4.heap.size 3 i0 (.int .i64 0) 1 8 Try.underlying39 HI3.out HZ0.out HZ1.out HZ2.out rfl (by decide) _ _ _ rfl (keepB HO.out ((Below.refl _ _).alloc (Nat.le_refl _) _)) ⟨wr.heap.size, 0, none⟩ 1 1 [.int .i64 (x + (k : Int))] rfl rfl (World.news_of_block (cs := #[.int .i64 (x + (k : Int))]) (t := 3) (fr := (0, 0)) (World.alloc_heap_new wr _)) (by intro y hy; simp at hy; subst hy; rfl) (by unfold maxLen; omega) (by omega) (by have := HVB.out; have := HX.out.size; simp; omega) ?_; intro v' w9 hown hgrow _ hat; have HO9 := Lib.hid hown; have HG9 := Lib.hid hgrow; have HT9 := Lib.hid hat; clear hown hgrow hat)
                  have KA : Below wr.heap.size wr (wr.alloc (.cells #[.int .i64 (x + (k : Int))] 3)) := (Below.refl _ _).alloc (Nat.le_refl _) _
                  have HO10 := Lib.hid HO9.out
                  go_roundw
                  case rel =>
                    refine ⟨j + 1, _, by omega, by go_num, rfl, Lib.hid ?_, Lib.hid ?_, Lib.hid ((keepB HRc.out KA).kept HG9.out (own_apart HON.out HSC.out)), Lib.hid ((keepB HRd.out KA).kept HG9.out (own_apart HON.out HSD.out)), Lib.hid ((HX.out.alloc HX.out.size _).grown HG9.out (by have := HX.out.size; simp; omega) (fun q e => (HO.out.lt q e).1)), Lib.hid ?_⟩
                    · rw [HAJ.out, List.length_append, ← ints_snoc]; exact HO10.out
                    · intro q e
                      rcases HT9.out with z | z
                      · rw [z] at e; exact HON.out q e
                      · rw [z] at e; cases e; right; have := HZ7.out; simp; omega
                    · have := HG9.out.size; have := HZ7.out; simp at *; omega
                  case measure => simp [intOf]; omega
                · obtain rfl : j = n2 := by omega
                  have HOL : Hid (wr.ownsRow v4.heap.size 3 1 vv L0.length (ints L0)) := Lib.hid (by
                    have q := HO.out
                    rw [List.take_of_length_le (by rw [HEc.out]; exact Nat.le_refl _), ← HSUM.out] at q
                    exact q)
                  obtain ⟨w8, hw8⟩ : ∃ v : World, v = wr := ⟨_, rfl⟩
                  subst hw8
                  obtain ⟨bad, bcp, e9, _⟩ := own_iz HOL.out
                  have HOM := HOL.out
                  rw [HEd.out] at e9 HOM
                  subst e9
                  have CI := Lib.hid (fun W (h : Below w8.heap.size w8 W) => ints_any bad dad n0 bcp n0 dcp L0 L0 W ((row_at HOM HEd.out).keep h) ((row_at HRd.out HEd.out).keep h) true ⟨fun _ => rfl, fun _ => rfl⟩)
                  clear HO HON HOL HRc HRd HZ7 HOM HSC HSD SZa SZc SZd
                  go_upto_region 19 with fail
                  have HS : Hid (∀ W, Below v4.heap.size v4 W → Below w8.heap.size w8 W → W.cell? ⟨b, 0, none⟩ = some (.int .i64 (nv : Int)) ∧ W.cell? ⟨b, 1, none⟩ = some (.slice fo fn fc) ∧ W.cell? ⟨b, 2, none⟩ = some (.slice ko kn kc) ∧ W.cell? ⟨b8, 0, none⟩ = some (.int .i64 (nv : Int)) ∧ W.cell? ⟨b8, 1, none⟩ = some (.slice fo fn fc) ∧ W.cell? ⟨b8, 2, none⟩ = some (.slice o1 k c1) ∧ W.cell? ⟨b9, 0, none⟩ = some (.int .i64 (nv : Int)) ∧ W.cell? ⟨b9, 1, none⟩ = some (.slice fo fn fc) ∧ W.cell? ⟨b9, 2, none⟩ = some (.slice o2 (kn - k) c2) ∧ Hid (Below v4.heap.size v4 W ∧ Below w8.heap.size w8 W)) := Lib.hid (fun W h g => ⟨cell_keep (cell_block HB0.out 0) h, cell_keep (cell_block HB0.out 1) h, cell_keep (cell_block HB0.out 2) h, cell_keep (cell_block HB8.out 0) h, cell_keep (cell_block HB8.out 1) h, cell_keep (cell_block HB8.out 2) h, cell_keep (cell_block HB9.out 0) h, cell_keep (cell_block HB9.out 1) h, cell_keep (cell_block HB9.out 2) h, Lib.hid ⟨h, g⟩⟩)
                  cases ro
                  · obtain rfl : kk = 230 := HKK.out.symm
                    have CH0 : Hid (∀ W, Below v4.heap.size v4 W → Calls Try.prog 15 #[.agg #[.int .i64 (nv : Int), .slice fo fn fc, .slice ko kn kc], .slice tao nv tk] W fun e w' => e = .returned (.bool false) ∧ Hid (Below W.heap.size W w')) := Lib.hid (fun W h => holds_any ⟨(nv : Int), fo, fn, fc, ko, kn, kc, fs, ks⟩ tao nv tk T W (HA0.out.keep h) (HTK.out.keep h) HRT.out (show kn ≤ 1000000 by omega) p (fun i hi => HPP.out i hi) false ⟨fun z => (by cases z), fun z => (by have := HRO.out.2 z.1; cases this)⟩)
                    have CH1 : Hid (∀ W, Below v4.heap.size v4 W → Calls Try.prog 15 #[.agg #[.int .i64 (nv : Int), .slice fo fn fc, .slice o1 k c1], .slice tao nv tk] W fun e w' => e = .returned (.bool false) ∧ Hid (Below W.heap.size W w')) := Lib.hid (fun W h => holds_any ⟨(nv : Int), fo, fn, fc, o1, k, c1, fs, ks.take k⟩ tao nv tk T W (HA1.out.keep h) (HTK.out.keep h) HRT.out (show k ≤ 1000000 by omega) p (fun i hi => by have hi2 : i < ks.length := (by simp only [List.length_take] at hi; omega); have q := HPP.out i hi2; rw [q]; simp only [List.getElem_take]) false ⟨fun z => (by cases z), fun z => (by have := HRO.out.2 z.1; cases this)⟩)
                    have CH2 : Hid (∀ W, Below v4.heap.size v4 W → Calls Try.prog 15 #[.agg #[.int .i64 (nv : Int), .slice fo fn fc, .slice o2 (kn - k) c2], .slice tao nv tk] W fun e w' => e = .returned (.bool false) ∧ Hid (Below W.heap.size W w')) := Lib.hid (fun W h => holds_any ⟨(nv : Int), fo, fn, fc, o2, kn - k, c2, fs, ks.drop k⟩ tao nv tk T W (HA2.out.keep h) (HTK.out.keep h) HRT.out (show kn - k ≤ 1000000 by omega) (fun i => p (k + i)) (fun i hi => by have hi2 : k + i < ks.length := (by simp only [List.length_drop] at hi; omega); have q := HPP.out (k + i) hi2; rw [q]; simp only [List.getElem_drop]) false ⟨fun z => (by cases z), fun z => (by have := HRO.out.2 z.1; cases this)⟩)
                    have t1 : ((230 : Int) == 0) = false := by decide
                    clear HRO HPP HRT HTK HA0 HA1 HA2 HL0 HL1 HL2 HEa HEc HEd HSUM HLN HBD
                    refine wp_region_held_drew (S := (fun W => W.cell? ⟨b, 0, none⟩ = some (.int .i64 (nv : Int)) ∧ W.cell? ⟨b, 1, none⟩ = some (.slice fo fn fc) ∧ W.cell? ⟨b, 2, none⟩ = some (.slice ko kn kc) ∧ W.cell? ⟨b8, 0, none⟩ = some (.int .i64 (nv : Int)) ∧ W.cell? ⟨b8, 1, none⟩ = some (.slice fo fn fc) ∧ W.cell? ⟨b8, 2, none⟩ = some (.slice o1 k c1) ∧ W.cell? ⟨b9, 0, none⟩ = some (.int .i64 (nv : Int)) ∧ W.cell? ⟨b9, 1, none⟩ = some (.slice fo fn fc) ∧ W.cell? ⟨b9, 2, none⟩ = some (.slice o2 (kn - k) c2) ∧ Hid (Below v4.heap.size v4 W ∧ Below w8.heap.size w8 W))) (by kernel_rfl) ?_ (fun hHeld => ?_)
                    · exact HS.out _ (HX.out.trans (Below.refl _ _).drew) (Below.refl _ _).drew
                    refine wpAnyH_take (i := 0) (oi := _) (v := ?_) rfl (by kernel_rfl) (by kernel_rfl) (by kernel_rfl) (fun _ _ _ h => h) (Or.inl ⟨by kernel_rfl, ?_⟩) (by assumption) ?_
                    rotate_left 1
                    focus (intro wq hSw; (try dsimp only at hSw); obtain ⟨s0, s1, s2, s3, s4, s5, s6, s7, s8, s9⟩ := hSw; go_simp; (try with_reducible rfl); done)
                    try simp only [List.getElem_toArray, List.getElem_cons_zero, List.getElem_cons_succ, Act.put, List.setIfInBounds_toArray, List.set_cons_zero, List.set_cons_succ]
                    refine wpAnyH_take (i := 1) (oi := _) (v := ?_) rfl (by kernel_rfl) (by kernel_rfl) (by kernel_rfl) (fun _ _ _ h => h) (Or.inl ⟨by kernel_rfl, ?_⟩) (by assumption) ?_
                    rotate_left 1
                    focus (intro wq hSw; (try dsimp only at hSw); obtain ⟨s0, s1, s2, s3, s4, s5, s6, s7, s8, s9⟩ := hSw; go_simp; (try with_reducible rfl); done)
                    try simp only [List.getElem_toArray, List.getElem_cons_zero, List.getElem_cons_succ, Act.put, List.setIfInBounds_toArray, List.set_cons_zero, List.set_cons_succ]
                    refine wpAnyH_ready (rs := [2]) (by kernel_rfl) (by simp) ?_
                    refine AllReadyH.cons (o := _) rfl (fun K hK => ?_) AllReadyH.nil
                    rw [if_pos (by kernel_rfl)]
                    go_simp
                    (go_at_call 14; (with_reducible refine (CI.out _ hHeld.2.2.2.2.2.2.2.2.2.out.2).mono ?_); rintro e z99 ⟨rfl, q⟩)
                    first | refine hK.out _ _ ?_ (fun hHeld => ?_) | (go_wp2_with fail; refine hK.out _ _ ?_ (fun hHeld => ?_))
                    · exact HS.out _ (hHeld.2.2.2.2.2.2.2.2.2.out.1.trans (q.mono hHeld.2.2.2.2.2.2.2.2.2.out.1.size)) (hHeld.2.2.2.2.2.2.2.2.2.out.2.trans (q.mono hHeld.2.2.2.2.2.2.2.2.2.out.2.size))
                    clear hK K
                    try simp only [List.getElem_toArray, List.getElem_cons_zero, List.getElem_cons_succ, Act.put, List.setIfInBounds_toArray, List.set_cons_zero, List.set_cons_succ]
                    refine wpAnyH_take (i := 3) (oi := _) (v := ?_) rfl (by kernel_rfl) (by kernel_rfl) (by kernel_rfl) (fun _ _ _ h => h) (Or.inl ⟨by kernel_rfl, ?_⟩) (by assumption) ?_
                    rotate_left 1
                    focus (intro wq hSw; (try dsimp only at hSw); obtain ⟨s0, s1, s2, s3, s4, s5, s6, s7, s8, s9⟩ := hSw; go_simp; (try with_reducible rfl); done)
                    try simp only [List.getElem_toArray, List.getElem_cons_zero, List.getElem_cons_succ, Act.put, List.setIfInBounds_toArray, List.set_cons_zero, List.set_cons_succ]
                    refine wpAnyH_take (i := 4) (oi := _) (v := ?_) rfl (by kernel_rfl) (by kernel_rfl) (by kernel_rfl) (fun _ _ _ h => h) (Or.inl ⟨by kernel_rfl, ?_⟩) (by assumption) ?_
                    rotate_left 1
                    focus (intro wq hSw; (try dsimp only at hSw); obtain ⟨s0, s1, s2, s3, s4, s5, s6, s7, s8, s9⟩ := hSw; go_simp; (try with_reducible rfl); done)
                    try simp only [List.getElem_toArray, List.getElem_cons_zero, List.getElem_cons_succ, Act.put, List.setIfInBounds_toArray, List.set_cons_zero, List.set_cons_succ]
                    refine wpAnyH_take (i := 5) (oi := _) (v := ?_) rfl (by kernel_rfl) (by kernel_rfl) (by kernel_rfl) (fun _ _ _ h => h) (Or.inl ⟨by kernel_rfl, ?_⟩) (by assumption) ?_
                    rotate_left 1
                    focus (intro wq hSw; (try dsimp only at hSw); obtain ⟨s0, s1, s2, s3, s4, s5, s6, s7, s8, s9⟩ := hSw; go_simp; (try with_reducible rfl); done)
                    try simp only [List.getElem_toArray, List.getElem_cons_zero, List.getElem_cons_succ, Act.put, List.setIfInBounds_toArray, List.set_cons_zero, List.set_cons_succ]
                    refine wpAnyH_take (i := 7) (oi := _) (v := ?_) rfl (by kernel_rfl) (by kernel_rfl) (by kernel_rfl) (fun _ _ _ h => h) (Or.inl ⟨by kernel_rfl, ?_⟩) (by assumption) ?_
                    rotate_left 1
                    focus (intro wq hSw; (try dsimp only at hSw); obtain ⟨s0, s1, s2, s3, s4, s5, s6, s7, s8, s9⟩ := hSw; go_simp; (try with_reducible rfl); done)
                    try simp only [List.getElem_toArray, List.getElem_cons_zero, List.getElem_cons_succ, Act.put, List.setIfInBounds_toArray, List.set_cons_zero, List.set_cons_succ]
                    refine wpAnyH_take (i := 8) (oi := _) (v := ?_) rfl (by kernel_rfl) (by kernel_rfl) (by kernel_rfl) (fun _ _ _ h => h) (Or.inl ⟨by kernel_rfl, ?_⟩) (by assumption) ?_
                    rotate_left 1
                    focus (intro wq hSw; (try dsimp only at hSw); obtain ⟨s0, s1, s2, s3, s4, s5, s6, s7, s8, s9⟩ := hSw; go_simp; (try with_reducible rfl); done)
                    try simp only [List.getElem_toArray, List.getElem_cons_zero, List.getElem_cons_succ, Act.put, List.setIfInBounds_toArray, List.set_cons_zero, List.set_cons_succ]
                    refine wpAnyH_ready (rs := [6]) (by kernel_rfl) (by simp) ?_
                    refine AllReadyH.cons (o := _) rfl (fun K hK => ?_) AllReadyH.nil
                    rw [if_pos (by kernel_rfl)]
                    go_simp
                    (go_at_call 15; (with_reducible refine (CH0.out _ hHeld.2.2.2.2.2.2.2.2.2.out.1).mono ?_); rintro e z103 ⟨rfl, q⟩; have q := q.out)
                    first | refine hK.out _ _ ?_ (fun hHeld => ?_) | (go_wp2_with fail; refine hK.out _ _ ?_ (fun hHeld => ?_))
                    · exact HS.out _ (hHeld.2.2.2.2.2.2.2.2.2.out.1.trans (q.mono hHeld.2.2.2.2.2.2.2.2.2.out.1.size)) (hHeld.2.2.2.2.2.2.2.2.2.out.2.trans (q.mono hHeld.2.2.2.2.2.2.2.2.2.out.2.size))
                    clear hK K
                    try simp only [List.getElem_toArray, List.getElem_cons_zero, List.getElem_cons_succ, Act.put, List.setIfInBounds_toArray, List.set_cons_zero, List.set_cons_succ]
                    refine wpAnyH_take (i := 9) (oi := _) (v := ?_) rfl (by kernel_rfl) (by kernel_rfl) (by kernel_rfl) (fun _ _ _ h => h) (Or.inl ⟨by kernel_rfl, ?_⟩) (by assumption) ?_
                    rotate_left 1
                    focus (intro wq hSw; (try dsimp only at hSw); obtain ⟨s0, s1, s2, s3, s4, s5, s6, s7, s8, s9⟩ := hSw; go_simp; (try with_reducible rfl); done)
                    try simp only [List.getElem_toArray, List.getElem_cons_zero, List.getElem_cons_succ, Act.put, List.setIfInBounds_toArray, List.set_cons_zero, List.set_cons_succ]
                    refine wpAnyH_take (i := 10) (oi := _) (v := undef) rfl (by kernel_rfl) (by kernel_rfl) (by kernel_rfl) (fun _ _ _ h => h) (Or.inr ⟨by kernel_rfl, rfl⟩) (by assumption) ?_
                    try simp only [List.getElem_toArray, List.getElem_cons_zero, List.getElem_cons_succ, Act.put, List.setIfInBounds_toArray, List.set_cons_zero, List.set_cons_succ]
                    refine wpAnyH_take (i := 11) (oi := _) (v := undef) rfl (by kernel_rfl) (by kernel_rfl) (by kernel_rfl) (fun _ _ _ h => h) (Or.inr ⟨by kernel_rfl, rfl⟩) (by assumption) ?_
                    try simp only [List.getElem_toArray, List.getElem_cons_zero, List.getElem_cons_succ, Act.put, List.setIfInBounds_toArray, List.set_cons_zero, List.set_cons_succ]
                    refine wpAnyH_take (i := 12) (oi := _) (v := undef) rfl (by kernel_rfl) (by kernel_rfl) (by kernel_rfl) (fun _ _ _ h => h) (Or.inr ⟨by kernel_rfl, rfl⟩) (by assumption) ?_
                    try simp only [List.getElem_toArray, List.getElem_cons_zero, List.getElem_cons_succ, Act.put, List.setIfInBounds_toArray, List.set_cons_zero, List.set_cons_succ]
                    refine wpAnyH_take (i := 13) (oi := _) (v := ?_) rfl (by kernel_rfl) (by kernel_rfl) (by kernel_rfl) (fun _ _ _ h => h) (Or.inl ⟨by kernel_rfl, ?_⟩) (by assumption) ?_
                    rotate_left 1
                    focus (intro wq hSw; (try dsimp only at hSw); obtain ⟨s0, s1, s2, s3, s4, s5, s6, s7, s8, s9⟩ := hSw; go_simp; (try with_reducible rfl); done)
                    try simp only [List.getElem_toArray, List.getElem_cons_zero, List.getElem_cons_succ, Act.put, List.setIfInBounds_toArray, List.set_cons_zero, List.set_cons_succ]
                    refine wpAnyH_take (i := 14) (oi := _) (v := ?_) rfl (by kernel_rfl) (by kernel_rfl) (by kernel_rfl) (fun _ _ _ h => h) (Or.inl ⟨by kernel_rfl, ?_⟩) (by assumption) ?_
                    rotate_left 1
                    focus (intro wq hSw; (try dsimp only at hSw); obtain ⟨s0, s1, s2, s3, s4, s5, s6, s7, s8, s9⟩ := hSw; go_simp; (try with_reducible rfl); done)
                    try simp only [List.getElem_toArray, List.getElem_cons_zero, List.getElem_cons_succ, Act.put, List.setIfInBounds_toArray, List.set_cons_zero, List.set_cons_succ]
                    refine wpAnyH_take (i := 15) (oi := _) (v := ?_) rfl (by kernel_rfl) (by kernel_rfl) (by kernel_rfl) (fun _ _ _ h => h) (Or.inl ⟨by kernel_rfl, ?_⟩) (by assumption) ?_
                    rotate_left 1
                    focus (intro wq hSw; (try dsimp only at hSw); obtain ⟨s0, s1, s2, s3, s4, s5, s6, s7, s8, s9⟩ := hSw; go_simp; (try with_reducible rfl); done)
                    try simp only [List.getElem_toArray, List.getElem_cons_zero, List.getElem_cons_succ, Act.put, List.setIfInBounds_toArray, List.set_cons_zero, List.set_cons_succ]
                    refine wpAnyH_take (i := 16) (oi := _) (v := ?_) rfl (by kernel_rfl) (by kernel_rfl) (by kernel_rfl) (fun _ _ _ h => h) (Or.inl ⟨by kernel_rfl, ?_⟩) (by assumption) ?_
                    rotate_left 1
                    focus (intro wq hSw; (try dsimp only at hSw); obtain ⟨s0, s1, s2, s3, s4, s5, s6, s7, s8, s9⟩ := hSw; go_simp; (try with_reducible rfl); done)
                    try simp only [List.getElem_toArray, List.getElem_cons_zero, List.getElem_cons_succ, Act.put, List.setIfInBounds_toArray, List.set_cons_zero, List.set_cons_succ]
                    refine wpAnyH_take (i := 17) (oi := _) (v := ?_) rfl (by kernel_rfl) (by kernel_rfl) (by kernel_rfl) (fun _ _ _ h => h) (Or.inl ⟨by kernel_rfl, ?_⟩) (by assumption) ?_
                    rotate_left 1
                    focus (intro wq hSw; (try dsimp only at hSw); obtain ⟨s0, s1, s2, s3, s4, s5, s6, s7, s8, s9⟩ := hSw; go_simp; (try with_reducible rfl); done)
                    try simp only [List.getElem_toArray, List.getElem_cons_zero, List.getElem_cons_succ, Act.put, List.setIfInBounds_toArray, List.set_cons_zero, List.set_cons_succ]
                    refine wpAnyH_take (i := 18) (oi := _) (v := ?_) rfl (by kernel_rfl) (by kernel_rfl) (by kernel_rfl) (fun _ _ _ h => h) (Or.inl ⟨by kernel_rfl, ?_⟩) (by assumption) ?_
                    rotate_left 1
                    focus (intro wq hSw; (try dsimp only at hSw); obtain ⟨s0, s1, s2, s3, s4, s5, s6, s7, s8, s9⟩ := hSw; go_simp; (try with_reducible rfl); done)
                    try simp only [List.getElem_toArray, List.getElem_cons_zero, List.getElem_cons_succ, Act.put, List.setIfInBounds_toArray, List.set_cons_zero, List.set_cons_succ]
                    refine wpAnyH_take (i := 20) (oi := _) (v := ?_) rfl (by kernel_rfl) (by kernel_rfl) (by kernel_rfl) (fun _ _ _ h => h) (Or.inl ⟨by kernel_rfl, ?_⟩) (by assumption) ?_
                    rotate_left 1
                    focus (intro wq hSw; (try dsimp only at hSw); obtain ⟨s0, s1, s2, s3, s4, s5, s6, s7, s8, s9⟩ := hSw; go_simp; (try with_reducible rfl); done)
                    try simp only [List.getElem_toArray, List.getElem_cons_zero, List.getElem_cons_succ, Act.put, List.setIfInBounds_toArray, List.set_cons_zero, List.set_cons_succ]
                    refine wpAnyH_take (i := 21) (oi := _) (v := ?_) rfl (by kernel_rfl) (by kernel_rfl) (by kernel_rfl) (fun _ _ _ h => h) (Or.inl ⟨by kernel_rfl, ?_⟩) (by assumption) ?_
                    rotate_left 1
                    focus (intro wq hSw; (try dsimp only at hSw); obtain ⟨s0, s1, s2, s3, s4, s5, s6, s7, s8, s9⟩ := hSw; go_simp; (try with_reducible rfl); done)
                    try simp only [List.getElem_toArray, List.getElem_cons_zero, List.getElem_cons_succ, Act.put, List.setIfInBounds_toArray, List.set_cons_zero, List.set_cons_succ]
                    refine wpAnyH_ready (rs := [19]) (by kernel_rfl) (by simp) ?_
                    refine AllReadyH.cons (o := _) rfl (fun K hK => ?_) AllReadyH.nil
                    rw [if_pos (by kernel_rfl)]
                    go_simp
                    (go_at_call 15; (with_reducible refine (CH0.out _ hHeld.2.2.2.2.2.2.2.2.2.out.1).mono ?_); rintro e z116 ⟨rfl, q⟩; have q := q.out)
                    first | refine hK.out _ _ ?_ (fun hHeld => ?_) | (go_wp2_with fail; refine hK.out _ _ ?_ (fun hHeld => ?_))
                    · exact HS.out _ (hHeld.2.2.2.2.2.2.2.2.2.out.1.trans (q.mono hHeld.2.2.2.2.2.2.2.2.2.out.1.size)) (hHeld.2.2.2.2.2.2.2.2.2.out.2.trans (q.mono hHeld.2.2.2.2.2.2.2.2.2.out.2.size))
                    clear hK K
                    try simp only [List.getElem_toArray, List.getElem_cons_zero, List.getElem_cons_succ, Act.put, List.setIfInBounds_toArray, List.set_cons_zero, List.set_cons_succ]
                    refine wpAnyH_ready (rs := [22]) (by kernel_rfl) (by simp) ?_
                    refine AllReadyH.cons (o := _) rfl (fun K hK => ?_) AllReadyH.nil
                    rw [if_pos (by kernel_rfl)]
                    go_simp
                    (go_at_call 15; (with_reducible refine (CH1.out _ hHeld.2.2.2.2.2.2.2.2.2.out.1).mono ?_); rintro e z119 ⟨rfl, q⟩; have q := q.out)
                    first | refine hK.out _ _ ?_ (fun hHeld => ?_) | (go_wp2_with fail; refine hK.out _ _ ?_ (fun hHeld => ?_))
                    · exact HS.out _ (hHeld.2.2.2.2.2.2.2.2.2.out.1.trans (q.mono hHeld.2.2.2.2.2.2.2.2.2.out.1.size)) (hHeld.2.2.2.2.2.2.2.2.2.out.2.trans (q.mono hHeld.2.2.2.2.2.2.2.2.2.out.2.size))
                    clear hK K
                    try simp only [List.getElem_toArray, List.getElem_cons_zero, List.getElem_cons_succ, Act.put, List.setIfInBounds_toArray, List.set_cons_zero, List.set_cons_succ]
                    refine wpAnyH_take (i := 23) (oi := _) (v := ?_) rfl (by kernel_rfl) (by kernel_rfl) (by kernel_rfl) (fun _ _ _ h => h) (Or.inl ⟨by kernel_rfl, ?_⟩) (by assumption) ?_
                    rotate_left 1
                    focus (intro wq hSw; (try dsimp only at hSw); obtain ⟨s0, s1, s2, s3, s4, s5, s6, s7, s8, s9⟩ := hSw; go_simp; (try with_reducible rfl); done)
                    try simp only [List.getElem_toArray, List.getElem_cons_zero, List.getElem_cons_succ, Act.put, List.setIfInBounds_toArray, List.set_cons_zero, List.set_cons_succ]
                    refine wpAnyH_take (i := 24) (oi := _) (v := undef) rfl (by kernel_rfl) (by kernel_rfl) (by kernel_rfl) (fun _ _ _ h => h) (Or.inr ⟨by kernel_rfl, rfl⟩) (by assumption) ?_
                    try simp only [List.getElem_toArray, List.getElem_cons_zero, List.getElem_cons_succ, Act.put, List.setIfInBounds_toArray, List.set_cons_zero, List.set_cons_succ]
                    refine wpAnyH_take (i := 25) (oi := _) (v := undef) rfl (by kernel_rfl) (by kernel_rfl) (by kernel_rfl) (fun _ _ _ h => h) (Or.inr ⟨by kernel_rfl, rfl⟩) (by assumption) ?_
                    try simp only [List.getElem_toArray, List.getElem_cons_zero, List.getElem_cons_succ, Act.put, List.setIfInBounds_toArray, List.set_cons_zero, List.set_cons_succ]
                    refine wpAnyH_take (i := 26) (oi := _) (v := undef) rfl (by kernel_rfl) (by kernel_rfl) (by kernel_rfl) (fun _ _ _ h => h) (Or.inr ⟨by kernel_rfl, rfl⟩) (by assumption) ?_
                    try simp only [List.getElem_toArray, List.getElem_cons_zero, List.getElem_cons_succ, Act.put, List.setIfInBounds_toArray, List.set_cons_zero, List.set_cons_succ]
                    refine wpAnyH_take (i := 27) (oi := _) (v := ?_) rfl (by kernel_rfl) (by kernel_rfl) (by kernel_rfl) (fun _ _ _ h => h) (Or.inl ⟨by kernel_rfl, ?_⟩) (by assumption) ?_
                    rotate_left 1
                    focus (intro wq hSw; (try dsimp only at hSw); obtain ⟨s0, s1, s2, s3, s4, s5, s6, s7, s8, s9⟩ := hSw; go_simp; (try with_reducible rfl); done)
                    try simp only [List.getElem_toArray, List.getElem_cons_zero, List.getElem_cons_succ, Act.put, List.setIfInBounds_toArray, List.set_cons_zero, List.set_cons_succ]
                    refine wpAnyH_take (i := 28) (oi := _) (v := ?_) rfl (by kernel_rfl) (by kernel_rfl) (by kernel_rfl) (fun _ _ _ h => h) (Or.inl ⟨by kernel_rfl, ?_⟩) (by assumption) ?_
                    rotate_left 1
                    focus (intro wq hSw; (try dsimp only at hSw); obtain ⟨s0, s1, s2, s3, s4, s5, s6, s7, s8, s9⟩ := hSw; go_simp; (try with_reducible rfl); done)
                    try simp only [List.getElem_toArray, List.getElem_cons_zero, List.getElem_cons_succ, Act.put, List.setIfInBounds_toArray, List.set_cons_zero, List.set_cons_succ]
                    refine wpAnyH_take (i := 29) (oi := _) (v := ?_) rfl (by kernel_rfl) (by kernel_rfl) (by kernel_rfl) (fun _ _ _ h => h) (Or.inl ⟨by kernel_rfl, ?_⟩) (by assumption) ?_
                    rotate_left 1
                    focus (intro wq hSw; (try dsimp only at hSw); obtain ⟨s0, s1, s2, s3, s4, s5, s6, s7, s8, s9⟩ := hSw; go_simp; (try with_reducible rfl); done)
                    try simp only [List.getElem_toArray, List.getElem_cons_zero, List.getElem_cons_succ, Act.put, List.setIfInBounds_toArray, List.set_cons_zero, List.set_cons_succ]
                    refine wpAnyH_take (i := 30) (oi := _) (v := ?_) rfl (by kernel_rfl) (by kernel_rfl) (by kernel_rfl) (fun _ _ _ h => h) (Or.inl ⟨by kernel_rfl, ?_⟩) (by assumption) ?_
                    rotate_left 1
                    focus (intro wq hSw; (try dsimp only at hSw); obtain ⟨s0, s1, s2, s3, s4, s5, s6, s7, s8, s9⟩ := hSw; go_simp; (try with_reducible rfl); done)
                    try simp only [List.getElem_toArray, List.getElem_cons_zero, List.getElem_cons_succ, Act.put, List.setIfInBounds_toArray, List.set_cons_zero, List.set_cons_succ]
                    refine wpAnyH_ready (rs := [31]) (by kernel_rfl) (by simp) ?_
                    refine AllReadyH.cons (o := _) rfl (fun K hK => ?_) AllReadyH.nil
                    rw [if_pos (by kernel_rfl)]
                    go_simp
                    (go_at_call 8; (with_reducible refine (HAW.out _).mono ?_); rintro e z128 ⟨rfl, q⟩)
                    first | refine hK.out _ _ ?_ (fun hHeld => ?_) | (go_wp2_with fail; refine hK.out _ _ ?_ (fun hHeld => ?_))
                    · exact HS.out _ (hHeld.2.2.2.2.2.2.2.2.2.out.1.trans (q.mono hHeld.2.2.2.2.2.2.2.2.2.out.1.size)) (hHeld.2.2.2.2.2.2.2.2.2.out.2.trans (q.mono hHeld.2.2.2.2.2.2.2.2.2.out.2.size))
                    clear hK K
                    try simp only [List.getElem_toArray, List.getElem_cons_zero, List.getElem_cons_succ, Act.put, List.setIfInBounds_toArray, List.set_cons_zero, List.set_cons_succ]
                    refine wpAnyH_take (i := 32) (oi := _) (v := ?_) rfl (by kernel_rfl) (by kernel_rfl) (by kernel_rfl) (fun _ _ _ h => h) (Or.inl ⟨by kernel_rfl, ?_⟩) (by assumption) ?_
                    rotate_left 1
                    focus (intro wq hSw; (try dsimp only at hSw); obtain ⟨s0, s1, s2, s3, s4, s5, s6, s7, s8, s9⟩ := hSw; go_simp; (try with_reducible rfl); done)
                    try simp only [List.getElem_toArray, List.getElem_cons_zero, List.getElem_cons_succ, Act.put, List.setIfInBounds_toArray, List.set_cons_zero, List.set_cons_succ]
                    refine wpAnyH_take (i := 33) (oi := _) (v := ?_) rfl (by kernel_rfl) (by kernel_rfl) (by kernel_rfl) (fun _ _ _ h => h) (Or.inl ⟨by kernel_rfl, ?_⟩) (by assumption) ?_
                    rotate_left 1
                    focus (intro wq hSw; (try dsimp only at hSw); obtain ⟨s0, s1, s2, s3, s4, s5, s6, s7, s8, s9⟩ := hSw; go_simp; (try with_reducible rfl); done)
                    try simp only [List.getElem_toArray, List.getElem_cons_zero, List.getElem_cons_succ, Act.put, List.setIfInBounds_toArray, List.set_cons_zero, List.set_cons_succ]
                    refine wpAnyH_done (by kernel_rfl) ?_ _
                    have HX := Lib.hid hHeld.2.2.2.2.2.2.2.2.2.out.1
                    clear hHeld
                    go_wp2
                    go_returns
                    exact ⟨rfl, HW4.out.trans (HX.out.mono HW4.out.size)⟩
                  · obtain rfl : kk = 0 := HKK.out.symm
                    have E0 : Hid (Fl p kn = L0) := HL0
                    have E1 : Hid (Fl p k = L1) := HL1
                    have E2 : Hid (Fl (fun i => p (k + i)) (kn - k) = L2) := HL2
                    have HOT : Hid (Own (nv : Int) T) := Lib.hid (HRO.out.1 (by first | rfl | trivial))
                    have HH0 : Hid (HoldsN ⟨(nv : Int), fo, fn, fc, ko, kn, kc, fs, ks⟩ T ↔ L0 = []) := Lib.hid ((holds_fl (p := p) (fun i hi => HPP.out i hi) HA0.out.cons.len HOT.out).trans (by rw [← E0.out]))
                    have HH1 : Hid (HoldsN ⟨(nv : Int), fo, fn, fc, o1, k, c1, fs, ks.take k⟩ T ↔ L1 = []) := Lib.hid ((holds_fl (p := p) (fun i hi => by have hi2 : i < ks.length := (by simp only [List.length_take] at hi; omega); have q := HPP.out i hi2; rw [q]; simp only [List.getElem_take]) HA1.out.cons.len HOT.out).trans (by rw [← E1.out]))
                    have HH2 : Hid (HoldsN ⟨(nv : Int), fo, fn, fc, o2, kn - k, c2, fs, ks.drop k⟩ T ↔ L2 = []) := Lib.hid ((holds_fl (p := fun i => p (k + i)) (fun i hi => by have hi2 : k + i < ks.length := (by simp only [List.length_drop] at hi; omega); have q := HPP.out (k + i) hi2; rw [q]; simp only [List.getElem_drop]) HA2.out.cons.len HOT.out).trans (by rw [← E2.out]))
                    by_cases z1 : L1 = []
                    · by_cases z2 : L2 = []
                      · have z0 : L0 = [] := by rw [HSUM.out, z1, z2]; rfl
                        obtain rfl : n0 = 0 := by rw [← HEd.out, z0]; rfl
                        have CH0 : Hid (∀ W, Below v4.heap.size v4 W → Calls Try.prog 15 #[.agg #[.int .i64 (nv : Int), .slice fo fn fc, .slice ko kn kc], .slice tao nv tk] W fun e w' => e = .returned (.bool true) ∧ Hid (Below W.heap.size W w')) := Lib.hid (fun W h => holds_any ⟨(nv : Int), fo, fn, fc, ko, kn, kc, fs, ks⟩ tao nv tk T W (HA0.out.keep h) (HTK.out.keep h) HRT.out (show kn ≤ 1000000 by omega) p (fun i hi => HPP.out i hi) true ⟨fun _ => HH0.out.2 z0, fun _ => rfl⟩)
                        have CH1 : Hid (∀ W, Below v4.heap.size v4 W → Calls Try.prog 15 #[.agg #[.int .i64 (nv : Int), .slice fo fn fc, .slice o1 k c1], .slice tao nv tk] W fun e w' => e = .returned (.bool true) ∧ Hid (Below W.heap.size W w')) := Lib.hid (fun W h => holds_any ⟨(nv : Int), fo, fn, fc, o1, k, c1, fs, ks.take k⟩ tao nv tk T W (HA1.out.keep h) (HTK.out.keep h) HRT.out (show k ≤ 1000000 by omega) p (fun i hi => by have hi2 : i < ks.length := (by simp only [List.length_take] at hi; omega); have q := HPP.out i hi2; rw [q]; simp only [List.getElem_take]) true ⟨fun _ => HH1.out.2 z1, fun _ => rfl⟩)
                        have CH2 : Hid (∀ W, Below v4.heap.size v4 W → Calls Try.prog 15 #[.agg #[.int .i64 (nv : Int), .slice fo fn fc, .slice o2 (kn - k) c2], .slice tao nv tk] W fun e w' => e = .returned (.bool true) ∧ Hid (Below W.heap.size W w')) := Lib.hid (fun W h => holds_any ⟨(nv : Int), fo, fn, fc, o2, kn - k, c2, fs, ks.drop k⟩ tao nv tk T W (HA2.out.keep h) (HTK.out.keep h) HRT.out (show kn - k ≤ 1000000 by omega) (fun i => p (k + i)) (fun i hi => by have hi2 : k + i < ks.length := (by simp only [List.length_drop] at hi; omega); have q := HPP.out (k + i) hi2; rw [q]; simp only [List.getElem_drop]) true ⟨fun _ => HH2.out.2 z2, fun _ => rfl⟩)
                        clear HRO HPP HRT HTK HA0 HA1 HA2 HL0 HL1 HL2 HEa HEc HEd HSUM HLN HBD HH0 HH1 HH2 E0 E1 E2 HOT z0 z1 z2
                        refine wp_region_held_drew (S := (fun W => W.cell? ⟨b, 0, none⟩ = some (.int .i64 (nv : Int)) ∧ W.cell? ⟨b, 1, none⟩ = some (.slice fo fn fc) ∧ W.cell? ⟨b, 2, none⟩ = some (.slice ko kn kc) ∧ W.cell? ⟨b8, 0, none⟩ = some (.int .i64 (nv : Int)) ∧ W.cell? ⟨b8, 1, none⟩ = some (.slice fo fn fc) ∧ W.cell? ⟨b8, 2, none⟩ = some (.slice o1 k c1) ∧ W.cell? ⟨b9, 0, none⟩ = some (.int .i64 (nv : Int)) ∧ W.cell? ⟨b9, 1, none⟩ = some (.slice fo fn fc) ∧ W.cell? ⟨b9, 2, none⟩ = some (.slice o2 (kn - k) c2) ∧ Hid (Below v4.heap.size v4 W ∧ Below w8.heap.size w8 W))) (by kernel_rfl) ?_ (fun hHeld => ?_)
                        · exact HS.out _ (HX.out.trans (Below.refl _ _).drew) (Below.refl _ _).drew
                        refine wpAnyH_take (i := 0) (oi := _) (v := ?_) rfl (by kernel_rfl) (by kernel_rfl) (by kernel_rfl) (fun _ _ _ h => h) (Or.inl ⟨by kernel_rfl, ?_⟩) (by assumption) ?_
                        rotate_left 1
                        focus (intro wq hSw; (try dsimp only at hSw); obtain ⟨s0, s1, s2, s3, s4, s5, s6, s7, s8, s9⟩ := hSw; go_simp; (try with_reducible rfl); done)
                        try simp only [List.getElem_toArray, List.getElem_cons_zero, List.getElem_cons_succ, Act.put, List.setIfInBounds_toArray, List.set_cons_zero, List.set_cons_succ]
                        refine wpAnyH_take (i := 1) (oi := _) (v := ?_) rfl (by kernel_rfl) (by kernel_rfl) (by kernel_rfl) (fun _ _ _ h => h) (Or.inl ⟨by kernel_rfl, ?_⟩) (by assumption) ?_
                        rotate_left 1
                        focus (intro wq hSw; (try dsimp only at hSw); obtain ⟨s0, s1, s2, s3, s4, s5, s6, s7, s8, s9⟩ := hSw; go_simp; (try with_reducible rfl); done)
                        try simp only [List.getElem_toArray, List.getElem_cons_zero, List.getElem_cons_succ, Act.put, List.setIfInBounds_toArray, List.set_cons_zero, List.set_cons_succ]
                        refine wpAnyH_ready (rs := [2]) (by kernel_rfl) (by simp) ?_
                        refine AllReadyH.cons (o := _) rfl (fun K hK => ?_) AllReadyH.nil
                        rw [if_pos (by kernel_rfl)]
                        go_simp
                        (go_at_call 14; (with_reducible refine (CI.out _ hHeld.2.2.2.2.2.2.2.2.2.out.2).mono ?_); rintro e z99 ⟨rfl, q⟩)
                        first | refine hK.out _ _ ?_ (fun hHeld => ?_) | (go_wp2_with fail; refine hK.out _ _ ?_ (fun hHeld => ?_))
                        · exact HS.out _ (hHeld.2.2.2.2.2.2.2.2.2.out.1.trans (q.mono hHeld.2.2.2.2.2.2.2.2.2.out.1.size)) (hHeld.2.2.2.2.2.2.2.2.2.out.2.trans (q.mono hHeld.2.2.2.2.2.2.2.2.2.out.2.size))
                        clear hK K
                        try simp only [List.getElem_toArray, List.getElem_cons_zero, List.getElem_cons_succ, Act.put, List.setIfInBounds_toArray, List.set_cons_zero, List.set_cons_succ]
                        refine wpAnyH_take (i := 3) (oi := _) (v := ?_) rfl (by kernel_rfl) (by kernel_rfl) (by kernel_rfl) (fun _ _ _ h => h) (Or.inl ⟨by kernel_rfl, ?_⟩) (by assumption) ?_
                        rotate_left 1
                        focus (intro wq hSw; (try dsimp only at hSw); obtain ⟨s0, s1, s2, s3, s4, s5, s6, s7, s8, s9⟩ := hSw; go_simp; (try with_reducible rfl); done)
                        try simp only [List.getElem_toArray, List.getElem_cons_zero, List.getElem_cons_succ, Act.put, List.setIfInBounds_toArray, List.set_cons_zero, List.set_cons_succ]
                        refine wpAnyH_take (i := 4) (oi := _) (v := ?_) rfl (by kernel_rfl) (by kernel_rfl) (by kernel_rfl) (fun _ _ _ h => h) (Or.inl ⟨by kernel_rfl, ?_⟩) (by assumption) ?_
                        rotate_left 1
                        focus (intro wq hSw; (try dsimp only at hSw); obtain ⟨s0, s1, s2, s3, s4, s5, s6, s7, s8, s9⟩ := hSw; go_simp; (try with_reducible rfl); done)
                        try simp only [List.getElem_toArray, List.getElem_cons_zero, List.getElem_cons_succ, Act.put, List.setIfInBounds_toArray, List.set_cons_zero, List.set_cons_succ]
                        refine wpAnyH_take (i := 5) (oi := _) (v := ?_) rfl (by kernel_rfl) (by kernel_rfl) (by kernel_rfl) (fun _ _ _ h => h) (Or.inl ⟨by kernel_rfl, ?_⟩) (by assumption) ?_
                        rotate_left 1
                        focus (intro wq hSw; (try dsimp only at hSw); obtain ⟨s0, s1, s2, s3, s4, s5, s6, s7, s8, s9⟩ := hSw; go_simp; (try with_reducible rfl); done)
                        try simp only [List.getElem_toArray, List.getElem_cons_zero, List.getElem_cons_succ, Act.put, List.setIfInBounds_toArray, List.set_cons_zero, List.set_cons_succ]
                        refine wpAnyH_take (i := 7) (oi := _) (v := ?_) rfl (by kernel_rfl) (by kernel_rfl) (by kernel_rfl) (fun _ _ _ h => h) (Or.inl ⟨by kernel_rfl, ?_⟩) (by assumption) ?_
                        rotate_left 1
                        focus (intro wq hSw; (try dsimp only at hSw); obtain ⟨s0, s1, s2, s3, s4, s5, s6, s7, s8, s9⟩ := hSw; go_simp; (try with_reducible rfl); done)
                        try simp only [List.getElem_toArray, List.getElem_cons_zero, List.getElem_cons_succ, Act.put, List.setIfInBounds_toArray, List.set_cons_zero, List.set_cons_succ]
                        refine wpAnyH_take (i := 8) (oi := _) (v := ?_) rfl (by kernel_rfl) (by kernel_rfl) (by kernel_rfl) (fun _ _ _ h => h) (Or.inl ⟨by kernel_rfl, ?_⟩) (by assumption) ?_
                        rotate_left 1
                        focus (intro wq hSw; (try dsimp only at hSw); obtain ⟨s0, s1, s2, s3, s4, s5, s6, s7, s8, s9⟩ := hSw; go_simp; (try with_reducible rfl); done)
                        try simp only [List.getElem_toArray, List.getElem_cons_zero, List.getElem_cons_succ, Act.put, List.setIfInBounds_toArray, List.set_cons_zero, List.set_cons_succ]
                        refine wpAnyH_ready (rs := [6]) (by kernel_rfl) (by simp) ?_
                        refine AllReadyH.cons (o := _) rfl (fun K hK => ?_) AllReadyH.nil
                        rw [if_pos (by kernel_rfl)]
                        go_simp
                        (go_at_call 15; (with_reducible refine (CH0.out _ hHeld.2.2.2.2.2.2.2.2.2.out.1).mono ?_); rintro e z103 ⟨rfl, q⟩; have q := q.out)
                        first | refine hK.out _ _ ?_ (fun hHeld => ?_) | (go_wp2_with fail; refine hK.out _ _ ?_ (fun hHeld => ?_))
                        · exact HS.out _ (hHeld.2.2.2.2.2.2.2.2.2.out.1.trans (q.mono hHeld.2.2.2.2.2.2.2.2.2.out.1.size)) (hHeld.2.2.2.2.2.2.2.2.2.out.2.trans (q.mono hHeld.2.2.2.2.2.2.2.2.2.out.2.size))
                        clear hK K
                        try simp only [List.getElem_toArray, List.getElem_cons_zero, List.getElem_cons_succ, Act.put, List.setIfInBounds_toArray, List.set_cons_zero, List.set_cons_succ]
                        refine wpAnyH_take (i := 9) (oi := _) (v := ?_) rfl (by kernel_rfl) (by kernel_rfl) (by kernel_rfl) (fun _ _ _ h => h) (Or.inl ⟨by kernel_rfl, ?_⟩) (by assumption) ?_
                        rotate_left 1
                        focus (intro wq hSw; (try dsimp only at hSw); obtain ⟨s0, s1, s2, s3, s4, s5, s6, s7, s8, s9⟩ := hSw; go_simp; (try with_reducible rfl); done)
                        try simp only [List.getElem_toArray, List.getElem_cons_zero, List.getElem_cons_succ, Act.put, List.setIfInBounds_toArray, List.set_cons_zero, List.set_cons_succ]
                        refine wpAnyH_take (i := 10) (oi := _) (v := ?_) rfl (by kernel_rfl) (by kernel_rfl) (by kernel_rfl) (fun _ _ _ h => h) (Or.inl ⟨by kernel_rfl, ?_⟩) (by assumption) ?_
                        rotate_left 1
                        focus (intro wq hSw; (try dsimp only at hSw); obtain ⟨s0, s1, s2, s3, s4, s5, s6, s7, s8, s9⟩ := hSw; go_simp; (try with_reducible rfl); done)
                        try simp only [List.getElem_toArray, List.getElem_cons_zero, List.getElem_cons_succ, Act.put, List.setIfInBounds_toArray, List.set_cons_zero, List.set_cons_succ]
                        refine wpAnyH_take (i := 11) (oi := _) (v := ?_) rfl (by kernel_rfl) (by kernel_rfl) (by kernel_rfl) (fun _ _ _ h => h) (Or.inl ⟨by kernel_rfl, ?_⟩) (by assumption) ?_
                        rotate_left 1
                        focus (intro wq hSw; (try dsimp only at hSw); obtain ⟨s0, s1, s2, s3, s4, s5, s6, s7, s8, s9⟩ := hSw; go_simp; (try with_reducible rfl); done)
                        try simp only [List.getElem_toArray, List.getElem_cons_zero, List.getElem_cons_succ, Act.put, List.setIfInBounds_toArray, List.set_cons_zero, List.set_cons_succ]
                        refine wpAnyH_take (i := 12) (oi := _) (v := ?_) rfl (by kernel_rfl) (by kernel_rfl) (by kernel_rfl) (fun _ _ _ h => h) (Or.inl ⟨by kernel_rfl, ?_⟩) (by assumption) ?_
                        rotate_left 1
                        focus (intro wq hSw; (try dsimp only at hSw); obtain ⟨s0, s1, s2, s3, s4, s5, s6, s7, s8, s9⟩ := hSw; go_simp; (try with_reducible rfl); done)
                        try simp only [List.getElem_toArray, List.getElem_cons_zero, List.getElem_cons_succ, Act.put, List.setIfInBounds_toArray, List.set_cons_zero, List.set_cons_succ]
                        refine wpAnyH_take (i := 13) (oi := _) (v := ?_) rfl (by kernel_rfl) (by kernel_rfl) (by kernel_rfl) (fun _ _ _ h => h) (Or.inl ⟨by kernel_rfl, ?_⟩) (by assumption) ?_
                        rotate_left 1
                        focus (intro wq hSw; (try dsimp only at hSw); obtain ⟨s0, s1, s2, s3, s4, s5, s6, s7, s8, s9⟩ := hSw; go_simp; (try with_reducible rfl); done)
                        try simp only [List.getElem_toArray, List.getElem_cons_zero, List.getElem_cons_succ, Act.put, List.setIfInBounds_toArray, List.set_cons_zero, List.set_cons_succ]
                        refine wpAnyH_take (i := 14) (oi := _) (v := ?_) rfl (by kernel_rfl) (by kernel_rfl) (by kernel_rfl) (fun _ _ _ h => h) (Or.inl ⟨by kernel_rfl, ?_⟩) (by assumption) ?_
                        rotate_left 1
                        focus (intro wq hSw; (try dsimp only at hSw); obtain ⟨s0, s1, s2, s3, s4, s5, s6, s7, s8, s9⟩ := hSw; go_simp; (try with_reducible rfl); done)
                        try simp only [List.getElem_toArray, List.getElem_cons_zero, List.getElem_cons_succ, Act.put, List.setIfInBounds_toArray, List.set_cons_zero, List.set_cons_succ]
                        refine wpAnyH_take (i := 15) (oi := _) (v := ?_) rfl (by kernel_rfl) (by kernel_rfl) (by kernel_rfl) (fun _ _ _ h => h) (Or.inl ⟨by kernel_rfl, ?_⟩) (by assumption) ?_
                        rotate_left 1
                        focus (intro wq hSw; (try dsimp only at hSw); obtain ⟨s0, s1, s2, s3, s4, s5, s6, s7, s8, s9⟩ := hSw; go_simp; (try with_reducible rfl); done)
                        try simp only [List.getElem_toArray, List.getElem_cons_zero, List.getElem_cons_succ, Act.put, List.setIfInBounds_toArray, List.set_cons_zero, List.set_cons_succ]
                        refine wpAnyH_take (i := 16) (oi := _) (v := ?_) rfl (by kernel_rfl) (by kernel_rfl) (by kernel_rfl) (fun _ _ _ h => h) (Or.inl ⟨by kernel_rfl, ?_⟩) (by assumption) ?_
                        rotate_left 1
                        focus (intro wq hSw; (try dsimp only at hSw); obtain ⟨s0, s1, s2, s3, s4, s5, s6, s7, s8, s9⟩ := hSw; go_simp; (try with_reducible rfl); done)
                        try simp only [List.getElem_toArray, List.getElem_cons_zero, List.getElem_cons_succ, Act.put, List.setIfInBounds_toArray, List.set_cons_zero, List.set_cons_succ]
                        refine wpAnyH_take (i := 17) (oi := _) (v := ?_) rfl (by kernel_rfl) (by kernel_rfl) (by kernel_rfl) (fun _ _ _ h => h) (Or.inl ⟨by kernel_rfl, ?_⟩) (by assumption) ?_
                        rotate_left 1
                        focus (intro wq hSw; (try dsimp only at hSw); obtain ⟨s0, s1, s2, s3, s4, s5, s6, s7, s8, s9⟩ := hSw; go_simp; (try with_reducible rfl); done)
                        try simp only [List.getElem_toArray, List.getElem_cons_zero, List.getElem_cons_succ, Act.put, List.setIfInBounds_toArray, List.set_cons_zero, List.set_cons_succ]
                        refine wpAnyH_take (i := 18) (oi := _) (v := ?_) rfl (by kernel_rfl) (by kernel_rfl) (by kernel_rfl) (fun _ _ _ h => h) (Or.inl ⟨by kernel_rfl, ?_⟩) (by assumption) ?_
                        rotate_left 1
                        focus (intro wq hSw; (try dsimp only at hSw); obtain ⟨s0, s1, s2, s3, s4, s5, s6, s7, s8, s9⟩ := hSw; go_simp; (try with_reducible rfl); done)
                        try simp only [List.getElem_toArray, List.getElem_cons_zero, List.getElem_cons_succ, Act.put, List.setIfInBounds_toArray, List.set_cons_zero, List.set_cons_succ]
                        refine wpAnyH_take (i := 20) (oi := _) (v := ?_) rfl (by kernel_rfl) (by kernel_rfl) (by kernel_rfl) (fun _ _ _ h => h) (Or.inl ⟨by kernel_rfl, ?_⟩) (by assumption) ?_
                        rotate_left 1
                        focus (intro wq hSw; (try dsimp only at hSw); obtain ⟨s0, s1, s2, s3, s4, s5, s6, s7, s8, s9⟩ := hSw; go_simp; (try with_reducible rfl); done)
                        try simp only [List.getElem_toArray, List.getElem_cons_zero, List.getElem_cons_succ, Act.put, List.setIfInBounds_toArray, List.set_cons_zero, List.set_cons_succ]
                        refine wpAnyH_take (i := 21) (oi := _) (v := ?_) rfl (by kernel_rfl) (by kernel_rfl) (by kernel_rfl) (fun _ _ _ h => h) (Or.inl ⟨by kernel_rfl, ?_⟩) (by assumption) ?_
                        rotate_left 1
                        focus (intro wq hSw; (try dsimp only at hSw); obtain ⟨s0, s1, s2, s3, s4, s5, s6, s7, s8, s9⟩ := hSw; go_simp; (try with_reducible rfl); done)
                        try simp only [List.getElem_toArray, List.getElem_cons_zero, List.getElem_cons_succ, Act.put, List.setIfInBounds_toArray, List.set_cons_zero, List.set_cons_succ]
                        refine wpAnyH_ready (rs := [19]) (by kernel_rfl) (by simp) ?_
                        refine AllReadyH.cons (o := _) rfl (fun K hK => ?_) AllReadyH.nil
                        rw [if_pos (by kernel_rfl)]
                        go_simp
                        (go_at_call 15; (with_reducible refine (CH0.out _ hHeld.2.2.2.2.2.2.2.2.2.out.1).mono ?_); rintro e z116 ⟨rfl, q⟩; have q := q.out)
                        first | refine hK.out _ _ ?_ (fun hHeld => ?_) | (go_wp2_with fail; refine hK.out _ _ ?_ (fun hHeld => ?_))
                        · exact HS.out _ (hHeld.2.2.2.2.2.2.2.2.2.out.1.trans (q.mono hHeld.2.2.2.2.2.2.2.2.2.out.1.size)) (hHeld.2.2.2.2.2.2.2.2.2.out.2.trans (q.mono hHeld.2.2.2.2.2.2.2.2.2.out.2.size))
                        clear hK K
                        try simp only [List.getElem_toArray, List.getElem_cons_zero, List.getElem_cons_succ, Act.put, List.setIfInBounds_toArray, List.set_cons_zero, List.set_cons_succ]
                        refine wpAnyH_ready (rs := [22]) (by kernel_rfl) (by simp) ?_
                        refine AllReadyH.cons (o := _) rfl (fun K hK => ?_) AllReadyH.nil
                        rw [if_pos (by kernel_rfl)]
                        go_simp
                        (go_at_call 15; (with_reducible refine (CH1.out _ hHeld.2.2.2.2.2.2.2.2.2.out.1).mono ?_); rintro e z119 ⟨rfl, q⟩; have q := q.out)
                        first | refine hK.out _ _ ?_ (fun hHeld => ?_) | (go_wp2_with fail; refine hK.out _ _ ?_ (fun hHeld => ?_))
                        · exact HS.out _ (hHeld.2.2.2.2.2.2.2.2.2.out.1.trans (q.mono hHeld.2.2.2.2.2.2.2.2.2.out.1.size)) (hHeld.2.2.2.2.2.2.2.2.2.out.2.trans (q.mono hHeld.2.2.2.2.2.2.2.2.2.out.2.size))
                        clear hK K
                        try simp only [List.getElem_toArray, List.getElem_cons_zero, List.getElem_cons_succ, Act.put, List.setIfInBounds_toArray, List.set_cons_zero, List.set_cons_succ]
                        refine wpAnyH_take (i := 23) (oi := _) (v := ?_) rfl (by kernel_rfl) (by kernel_rfl) (by kernel_rfl) (fun _ _ _ h => h) (Or.inl ⟨by kernel_rfl, ?_⟩) (by assumption) ?_
                        rotate_left 1
                        focus (intro wq hSw; (try dsimp only at hSw); obtain ⟨s0, s1, s2, s3, s4, s5, s6, s7, s8, s9⟩ := hSw; go_simp; (try with_reducible rfl); done)
                        try simp only [List.getElem_toArray, List.getElem_cons_zero, List.getElem_cons_succ, Act.put, List.setIfInBounds_toArray, List.set_cons_zero, List.set_cons_succ]
                        refine wpAnyH_take (i := 24) (oi := _) (v := ?_) rfl (by kernel_rfl) (by kernel_rfl) (by kernel_rfl) (fun _ _ _ h => h) (Or.inl ⟨by kernel_rfl, ?_⟩) (by assumption) ?_
                        rotate_left 1
                        focus (intro wq hSw; (try dsimp only at hSw); obtain ⟨s0, s1, s2, s3, s4, s5, s6, s7, s8, s9⟩ := hSw; go_simp; (try with_reducible rfl); done)
                        try simp only [List.getElem_toArray, List.getElem_cons_zero, List.getElem_cons_succ, Act.put, List.setIfInBounds_toArray, List.set_cons_zero, List.set_cons_succ]
                        refine wpAnyH_take (i := 25) (oi := _) (v := ?_) rfl (by kernel_rfl) (by kernel_rfl) (by kernel_rfl) (fun _ _ _ h => h) (Or.inl ⟨by kernel_rfl, ?_⟩) (by assumption) ?_
                        rotate_left 1
                        focus (intro wq hSw; (try dsimp only at hSw); obtain ⟨s0, s1, s2, s3, s4, s5, s6, s7, s8, s9⟩ := hSw; go_simp; (try with_reducible rfl); done)
                        try simp only [List.getElem_toArray, List.getElem_cons_zero, List.getElem_cons_succ, Act.put, List.setIfInBounds_toArray, List.set_cons_zero, List.set_cons_succ]
                        refine wpAnyH_ready (rs := [26]) (by kernel_rfl) (by simp) ?_
                        refine AllReadyH.cons (o := _) rfl (fun K hK => ?_) AllReadyH.nil
                        rw [if_pos (by kernel_rfl)]
                        go_simp
                        (go_at_call 15; (with_reducible refine (CH2.out _ hHeld.2.2.2.2.2.2.2.2.2.out.1).mono ?_); rintro e z123 ⟨rfl, q⟩; have q := q.out)
                        first | refine hK.out _ _ ?_ (fun hHeld => ?_) | (go_wp2_with fail; refine hK.out _ _ ?_ (fun hHeld => ?_))
                        · exact HS.out _ (hHeld.2.2.2.2.2.2.2.2.2.out.1.trans (q.mono hHeld.2.2.2.2.2.2.2.2.2.out.1.size)) (hHeld.2.2.2.2.2.2.2.2.2.out.2.trans (q.mono hHeld.2.2.2.2.2.2.2.2.2.out.2.size))
                        clear hK K
                        try simp only [List.getElem_toArray, List.getElem_cons_zero, List.getElem_cons_succ, Act.put, List.setIfInBounds_toArray, List.set_cons_zero, List.set_cons_succ]
                        refine wpAnyH_take (i := 27) (oi := _) (v := ?_) rfl (by kernel_rfl) (by kernel_rfl) (by kernel_rfl) (fun _ _ _ h => h) (Or.inl ⟨by kernel_rfl, ?_⟩) (by assumption) ?_
                        rotate_left 1
                        focus (intro wq hSw; (try dsimp only at hSw); obtain ⟨s0, s1, s2, s3, s4, s5, s6, s7, s8, s9⟩ := hSw; go_simp; (try with_reducible rfl); done)
                        try simp only [List.getElem_toArray, List.getElem_cons_zero, List.getElem_cons_succ, Act.put, List.setIfInBounds_toArray, List.set_cons_zero, List.set_cons_succ]
                        refine wpAnyH_take (i := 28) (oi := _) (v := ?_) rfl (by kernel_rfl) (by kernel_rfl) (by kernel_rfl) (fun _ _ _ h => h) (Or.inl ⟨by kernel_rfl, ?_⟩) (by assumption) ?_
                        rotate_left 1
                        focus (intro wq hSw; (try dsimp only at hSw); obtain ⟨s0, s1, s2, s3, s4, s5, s6, s7, s8, s9⟩ := hSw; go_simp; (try with_reducible rfl); done)
                        try simp only [List.getElem_toArray, List.getElem_cons_zero, List.getElem_cons_succ, Act.put, List.setIfInBounds_toArray, List.set_cons_zero, List.set_cons_succ]
                        refine wpAnyH_take (i := 29) (oi := _) (v := ?_) rfl (by kernel_rfl) (by kernel_rfl) (by kernel_rfl) (fun _ _ _ h => h) (Or.inl ⟨by kernel_rfl, ?_⟩) (by assumption) ?_
                        rotate_left 1
                        focus (intro wq hSw; (try dsimp only at hSw); obtain ⟨s0, s1, s2, s3, s4, s5, s6, s7, s8, s9⟩ := hSw; go_simp; (try with_reducible rfl); done)
                        try simp only [List.getElem_toArray, List.getElem_cons_zero, List.getElem_cons_succ, Act.put, List.setIfInBounds_toArray, List.set_cons_zero, List.set_cons_succ]
                        refine wpAnyH_take (i := 30) (oi := _) (v := ?_) rfl (by kernel_rfl) (by kernel_rfl) (by kernel_rfl) (fun _ _ _ h => h) (Or.inl ⟨by kernel_rfl, ?_⟩) (by assumption) ?_
                        rotate_left 1
                        focus (intro wq hSw; (try dsimp only at hSw); obtain ⟨s0, s1, s2, s3, s4, s5, s6, s7, s8, s9⟩ := hSw; go_simp; (try with_reducible rfl); done)
                        try simp only [List.getElem_toArray, List.getElem_cons_zero, List.getElem_cons_succ, Act.put, List.setIfInBounds_toArray, List.set_cons_zero, List.set_cons_succ]
                        refine wpAnyH_ready (rs := [31]) (by kernel_rfl) (by simp) ?_
                        refine AllReadyH.cons (o := _) rfl (fun K hK => ?_) AllReadyH.nil
                        rw [if_pos (by kernel_rfl)]
                        go_simp
                        (go_at_call 8; (with_reducible refine (HAW.out _).mono ?_); rintro e z128 ⟨rfl, q⟩)
                        first | refine hK.out _ _ ?_ (fun hHeld => ?_) | (go_wp2_with fail; refine hK.out _ _ ?_ (fun hHeld => ?_))
                        · exact HS.out _ (hHeld.2.2.2.2.2.2.2.2.2.out.1.trans (q.mono hHeld.2.2.2.2.2.2.2.2.2.out.1.size)) (hHeld.2.2.2.2.2.2.2.2.2.out.2.trans (q.mono hHeld.2.2.2.2.2.2.2.2.2.out.2.size))
                        clear hK K
                        try simp only [List.getElem_toArray, List.getElem_cons_zero, List.getElem_cons_succ, Act.put, List.setIfInBounds_toArray, List.set_cons_zero, List.set_cons_succ]
                        refine wpAnyH_take (i := 32) (oi := _) (v := ?_) rfl (by kernel_rfl) (by kernel_rfl) (by kernel_rfl) (fun _ _ _ h => h) (Or.inl ⟨by kernel_rfl, ?_⟩) (by assumption) ?_
                        rotate_left 1
                        focus (intro wq hSw; (try dsimp only at hSw); obtain ⟨s0, s1, s2, s3, s4, s5, s6, s7, s8, s9⟩ := hSw; go_simp; (try with_reducible rfl); done)
                        try simp only [List.getElem_toArray, List.getElem_cons_zero, List.getElem_cons_succ, Act.put, List.setIfInBounds_toArray, List.set_cons_zero, List.set_cons_succ]
                        refine wpAnyH_take (i := 33) (oi := _) (v := ?_) rfl (by kernel_rfl) (by kernel_rfl) (by kernel_rfl) (fun _ _ _ h => h) (Or.inl ⟨by kernel_rfl, ?_⟩) (by assumption) ?_
                        rotate_left 1
                        focus (intro wq hSw; (try dsimp only at hSw); obtain ⟨s0, s1, s2, s3, s4, s5, s6, s7, s8, s9⟩ := hSw; go_simp; (try with_reducible rfl); done)
                        try simp only [List.getElem_toArray, List.getElem_cons_zero, List.getElem_cons_succ, Act.put, List.setIfInBounds_toArray, List.set_cons_zero, List.set_cons_succ]
                        refine wpAnyH_done (by kernel_rfl) ?_ _
                        have HX := Lib.hid hHeld.2.2.2.2.2.2.2.2.2.out.1
                        clear hHeld
                        go_wp2
                        go_returns
                        exact ⟨rfl, HW4.out.trans (HX.out.mono HW4.out.size)⟩
                      · have z0 : ¬ L0 = [] := by rw [HSUM.out, z1]; simpa using z2
                        have z3 : ¬ n0 = 0 := fun e => z0 (List.eq_nil_of_length_eq_zero (by rw [HEd.out]; exact e))
                        have t1 : ((n0 : Int) == 0) = false := by simp; exact z3
                        have CH0 : Hid (∀ W, Below v4.heap.size v4 W → Calls Try.prog 15 #[.agg #[.int .i64 (nv : Int), .slice fo fn fc, .slice ko kn kc], .slice tao nv tk] W fun e w' => e = .returned (.bool false) ∧ Hid (Below W.heap.size W w')) := Lib.hid (fun W h => holds_any ⟨(nv : Int), fo, fn, fc, ko, kn, kc, fs, ks⟩ tao nv tk T W (HA0.out.keep h) (HTK.out.keep h) HRT.out (show kn ≤ 1000000 by omega) p (fun i hi => HPP.out i hi) false ⟨fun z => (by cases z), fun z => absurd (HH0.out.1 z) z0⟩)
                        have CH1 : Hid (∀ W, Below v4.heap.size v4 W → Calls Try.prog 15 #[.agg #[.int .i64 (nv : Int), .slice fo fn fc, .slice o1 k c1], .slice tao nv tk] W fun e w' => e = .returned (.bool true) ∧ Hid (Below W.heap.size W w')) := Lib.hid (fun W h => holds_any ⟨(nv : Int), fo, fn, fc, o1, k, c1, fs, ks.take k⟩ tao nv tk T W (HA1.out.keep h) (HTK.out.keep h) HRT.out (show k ≤ 1000000 by omega) p (fun i hi => by have hi2 : i < ks.length := (by simp only [List.length_take] at hi; omega); have q := HPP.out i hi2; rw [q]; simp only [List.getElem_take]) true ⟨fun _ => HH1.out.2 z1, fun _ => rfl⟩)
                        have CH2 : Hid (∀ W, Below v4.heap.size v4 W → Calls Try.prog 15 #[.agg #[.int .i64 (nv : Int), .slice fo fn fc, .slice o2 (kn - k) c2], .slice tao nv tk] W fun e w' => e = .returned (.bool false) ∧ Hid (Below W.heap.size W w')) := Lib.hid (fun W h => holds_any ⟨(nv : Int), fo, fn, fc, o2, kn - k, c2, fs, ks.drop k⟩ tao nv tk T W (HA2.out.keep h) (HTK.out.keep h) HRT.out (show kn - k ≤ 1000000 by omega) (fun i => p (k + i)) (fun i hi => by have hi2 : k + i < ks.length := (by simp only [List.length_drop] at hi; omega); have q := HPP.out (k + i) hi2; rw [q]; simp only [List.getElem_drop]) false ⟨fun z => (by cases z), fun z => absurd (HH2.out.1 z) z2⟩)
                        clear HRO HPP HRT HTK HA0 HA1 HA2 HL0 HL1 HL2 HEa HEc HEd HSUM HLN HBD HH0 HH1 HH2 E0 E1 E2 HOT z0 z1 z2
                        refine wp_region_held_drew (S := (fun W => W.cell? ⟨b, 0, none⟩ = some (.int .i64 (nv : Int)) ∧ W.cell? ⟨b, 1, none⟩ = some (.slice fo fn fc) ∧ W.cell? ⟨b, 2, none⟩ = some (.slice ko kn kc) ∧ W.cell? ⟨b8, 0, none⟩ = some (.int .i64 (nv : Int)) ∧ W.cell? ⟨b8, 1, none⟩ = some (.slice fo fn fc) ∧ W.cell? ⟨b8, 2, none⟩ = some (.slice o1 k c1) ∧ W.cell? ⟨b9, 0, none⟩ = some (.int .i64 (nv : Int)) ∧ W.cell? ⟨b9, 1, none⟩ = some (.slice fo fn fc) ∧ W.cell? ⟨b9, 2, none⟩ = some (.slice o2 (kn - k) c2) ∧ Hid (Below v4.heap.size v4 W ∧ Below w8.heap.size w8 W))) (by kernel_rfl) ?_ (fun hHeld => ?_)
                        · exact HS.out _ (HX.out.trans (Below.refl _ _).drew) (Below.refl _ _).drew
                        refine wpAnyH_take (i := 0) (oi := _) (v := ?_) rfl (by kernel_rfl) (by kernel_rfl) (by kernel_rfl) (fun _ _ _ h => h) (Or.inl ⟨by kernel_rfl, ?_⟩) (by assumption) ?_
                        rotate_left 1
                        focus (intro wq hSw; (try dsimp only at hSw); obtain ⟨s0, s1, s2, s3, s4, s5, s6, s7, s8, s9⟩ := hSw; go_simp; (try with_reducible rfl); done)
                        try simp only [List.getElem_toArray, List.getElem_cons_zero, List.getElem_cons_succ, Act.put, List.setIfInBounds_toArray, List.set_cons_zero, List.set_cons_succ]
                        refine wpAnyH_take (i := 1) (oi := _) (v := ?_) rfl (by kernel_rfl) (by kernel_rfl) (by kernel_rfl) (fun _ _ _ h => h) (Or.inl ⟨by kernel_rfl, ?_⟩) (by assumption) ?_
                        rotate_left 1
                        focus (intro wq hSw; (try dsimp only at hSw); obtain ⟨s0, s1, s2, s3, s4, s5, s6, s7, s8, s9⟩ := hSw; go_simp; (try with_reducible rfl); done)
                        try simp only [List.getElem_toArray, List.getElem_cons_zero, List.getElem_cons_succ, Act.put, List.setIfInBounds_toArray, List.set_cons_zero, List.set_cons_succ]
                        refine wpAnyH_ready (rs := [2]) (by kernel_rfl) (by simp) ?_
                        refine AllReadyH.cons (o := _) rfl (fun K hK => ?_) AllReadyH.nil
                        rw [if_pos (by kernel_rfl)]
                        go_simp
                        (go_at_call 14; (with_reducible refine (CI.out _ hHeld.2.2.2.2.2.2.2.2.2.out.2).mono ?_); rintro e z99 ⟨rfl, q⟩)
                        first | refine hK.out _ _ ?_ (fun hHeld => ?_) | (go_wp2_with fail; refine hK.out _ _ ?_ (fun hHeld => ?_))
                        · exact HS.out _ (hHeld.2.2.2.2.2.2.2.2.2.out.1.trans (q.mono hHeld.2.2.2.2.2.2.2.2.2.out.1.size)) (hHeld.2.2.2.2.2.2.2.2.2.out.2.trans (q.mono hHeld.2.2.2.2.2.2.2.2.2.out.2.size))
                        clear hK K
                        try simp only [List.getElem_toArray, List.getElem_cons_zero, List.getElem_cons_succ, Act.put, List.setIfInBounds_toArray, List.set_cons_zero, List.set_cons_succ]
                        refine wpAnyH_take (i := 3) (oi := _) (v := ?_) rfl (by kernel_rfl) (by kernel_rfl) (by kernel_rfl) (fun _ _ _ h => h) (Or.inl ⟨by kernel_rfl, ?_⟩) (by assumption) ?_
                        rotate_left 1
                        focus (intro wq hSw; (try dsimp only at hSw); obtain ⟨s0, s1, s2, s3, s4, s5, s6, s7, s8, s9⟩ := hSw; go_simp; (try with_reducible rfl); done)
                        try simp only [List.getElem_toArray, List.getElem_cons_zero, List.getElem_cons_succ, Act.put, List.setIfInBounds_toArray, List.set_cons_zero, List.set_cons_succ]
                        refine wpAnyH_take (i := 4) (oi := _) (v := ?_) rfl (by kernel_rfl) (by kernel_rfl) (by kernel_rfl) (fun _ _ _ h => h) (Or.inl ⟨by kernel_rfl, ?_⟩) (by assumption) ?_
                        rotate_left 1
                        focus (intro wq hSw; (try dsimp only at hSw); obtain ⟨s0, s1, s2, s3, s4, s5, s6, s7, s8, s9⟩ := hSw; go_simp; (try with_reducible rfl); done)
                        try simp only [List.getElem_toArray, List.getElem_cons_zero, List.getElem_cons_succ, Act.put, List.setIfInBounds_toArray, List.set_cons_zero, List.set_cons_succ]
                        refine wpAnyH_take (i := 5) (oi := _) (v := ?_) rfl (by kernel_rfl) (by kernel_rfl) (by kernel_rfl) (fun _ _ _ h => h) (Or.inl ⟨by kernel_rfl, ?_⟩) (by assumption) ?_
                        rotate_left 1
                        focus (intro wq hSw; (try dsimp only at hSw); obtain ⟨s0, s1, s2, s3, s4, s5, s6, s7, s8, s9⟩ := hSw; go_simp; (try with_reducible rfl); done)
                        try simp only [List.getElem_toArray, List.getElem_cons_zero, List.getElem_cons_succ, Act.put, List.setIfInBounds_toArray, List.set_cons_zero, List.set_cons_succ]
                        refine wpAnyH_take (i := 7) (oi := _) (v := ?_) rfl (by kernel_rfl) (by kernel_rfl) (by kernel_rfl) (fun _ _ _ h => h) (Or.inl ⟨by kernel_rfl, ?_⟩) (by assumption) ?_
                        rotate_left 1
                        focus (intro wq hSw; (try dsimp only at hSw); obtain ⟨s0, s1, s2, s3, s4, s5, s6, s7, s8, s9⟩ := hSw; go_simp; (try with_reducible rfl); done)
                        try simp only [List.getElem_toArray, List.getElem_cons_zero, List.getElem_cons_succ, Act.put, List.setIfInBounds_toArray, List.set_cons_zero, List.set_cons_succ]
                        refine wpAnyH_take (i := 8) (oi := _) (v := ?_) rfl (by kernel_rfl) (by kernel_rfl) (by kernel_rfl) (fun _ _ _ h => h) (Or.inl ⟨by kernel_rfl, ?_⟩) (by assumption) ?_
                        rotate_left 1
                        focus (intro wq hSw; (try dsimp only at hSw); obtain ⟨s0, s1, s2, s3, s4, s5, s6, s7, s8, s9⟩ := hSw; go_simp; (try with_reducible rfl); done)
                        try simp only [List.getElem_toArray, List.getElem_cons_zero, List.getElem_cons_succ, Act.put, List.setIfInBounds_toArray, List.set_cons_zero, List.set_cons_succ]
                        refine wpAnyH_ready (rs := [6]) (by kernel_rfl) (by simp) ?_
                        refine AllReadyH.cons (o := _) rfl (fun K hK => ?_) AllReadyH.nil
                        rw [if_pos (by kernel_rfl)]
                        go_simp
                        (go_at_call 15; (with_reducible refine (CH0.out _ hHeld.2.2.2.2.2.2.2.2.2.out.1).mono ?_); rintro e z103 ⟨rfl, q⟩; have q := q.out)
                        first | refine hK.out _ _ ?_ (fun hHeld => ?_) | (go_wp2_with fail; refine hK.out _ _ ?_ (fun hHeld => ?_))
                        · exact HS.out _ (hHeld.2.2.2.2.2.2.2.2.2.out.1.trans (q.mono hHeld.2.2.2.2.2.2.2.2.2.out.1.size)) (hHeld.2.2.2.2.2.2.2.2.2.out.2.trans (q.mono hHeld.2.2.2.2.2.2.2.2.2.out.2.size))
                        clear hK K
                        try simp only [List.getElem_toArray, List.getElem_cons_zero, List.getElem_cons_succ, Act.put, List.setIfInBounds_toArray, List.set_cons_zero, List.set_cons_succ]
                        refine wpAnyH_take (i := 9) (oi := _) (v := ?_) rfl (by kernel_rfl) (by kernel_rfl) (by kernel_rfl) (fun _ _ _ h => h) (Or.inl ⟨by kernel_rfl, ?_⟩) (by assumption) ?_
                        rotate_left 1
                        focus (intro wq hSw; (try dsimp only at hSw); obtain ⟨s0, s1, s2, s3, s4, s5, s6, s7, s8, s9⟩ := hSw; go_simp; (try with_reducible rfl); done)
                        try simp only [List.getElem_toArray, List.getElem_cons_zero, List.getElem_cons_succ, Act.put, List.setIfInBounds_toArray, List.set_cons_zero, List.set_cons_succ]
                        refine wpAnyH_take (i := 10) (oi := _) (v := ?_) rfl (by kernel_rfl) (by kernel_rfl) (by kernel_rfl) (fun _ _ _ h => h) (Or.inl ⟨by kernel_rfl, ?_⟩) (by assumption) ?_
                        rotate_left 1
                        focus (intro wq hSw; (try dsimp only at hSw); obtain ⟨s0, s1, s2, s3, s4, s5, s6, s7, s8, s9⟩ := hSw; go_simp; (try with_reducible rfl); done)
                        try simp only [List.getElem_toArray, List.getElem_cons_zero, List.getElem_cons_succ, Act.put, List.setIfInBounds_toArray, List.set_cons_zero, List.set_cons_succ]
                        refine wpAnyH_take (i := 11) (oi := _) (v := ?_) rfl (by kernel_rfl) (by kernel_rfl) (by kernel_rfl) (fun _ _ _ h => h) (Or.inl ⟨by kernel_rfl, ?_⟩) (by assumption) ?_
                        rotate_left 1
                        focus (intro wq hSw; (try dsimp only at hSw); obtain ⟨s0, s1, s2, s3, s4, s5, s6, s7, s8, s9⟩ := hSw; go_simp; (try with_reducible rfl); done)
                        try simp only [List.getElem_toArray, List.getElem_cons_zero, List.getElem_cons_succ, Act.put, List.setIfInBounds_toArray, List.set_cons_zero, List.set_cons_succ]
                        refine wpAnyH_take (i := 12) (oi := _) (v := ?_) rfl (by kernel_rfl) (by kernel_rfl) (by kernel_rfl) (fun _ _ _ h => h) (Or.inl ⟨by kernel_rfl, ?_⟩) (by assumption) ?_
                        rotate_left 1
                        focus (intro wq hSw; (try dsimp only at hSw); obtain ⟨s0, s1, s2, s3, s4, s5, s6, s7, s8, s9⟩ := hSw; go_simp; (try with_reducible rfl); done)
                        try simp only [List.getElem_toArray, List.getElem_cons_zero, List.getElem_cons_succ, Act.put, List.setIfInBounds_toArray, List.set_cons_zero, List.set_cons_succ]
                        refine wpAnyH_take (i := 13) (oi := _) (v := ?_) rfl (by kernel_rfl) (by kernel_rfl) (by kernel_rfl) (fun _ _ _ h => h) (Or.inl ⟨by kernel_rfl, ?_⟩) (by assumption) ?_
                        rotate_left 1
                        focus (intro wq hSw; (try dsimp only at hSw); obtain ⟨s0, s1, s2, s3, s4, s5, s6, s7, s8, s9⟩ := hSw; go_simp; (try with_reducible rfl); done)
                        try simp only [List.getElem_toArray, List.getElem_cons_zero, List.getElem_cons_succ, Act.put, List.setIfInBounds_toArray, List.set_cons_zero, List.set_cons_succ]
                        refine wpAnyH_take (i := 14) (oi := _) (v := ?_) rfl (by kernel_rfl) (by kernel_rfl) (by kernel_rfl) (fun _ _ _ h => h) (Or.inl ⟨by kernel_rfl, ?_⟩) (by assumption) ?_
                        rotate_left 1
                        focus (intro wq hSw; (try dsimp only at hSw); obtain ⟨s0, s1, s2, s3, s4, s5, s6, s7, s8, s9⟩ := hSw; go_simp; (try with_reducible rfl); done)
                        try simp only [List.getElem_toArray, List.getElem_cons_zero, List.getElem_cons_succ, Act.put, List.setIfInBounds_toArray, List.set_cons_zero, List.set_cons_succ]
                        refine wpAnyH_take (i := 15) (oi := _) (v := ?_) rfl (by kernel_rfl) (by kernel_rfl) (by kernel_rfl) (fun _ _ _ h => h) (Or.inl ⟨by kernel_rfl, ?_⟩) (by assumption) ?_
                        rotate_left 1
                        focus (intro wq hSw; (try dsimp only at hSw); obtain ⟨s0, s1, s2, s3, s4, s5, s6, s7, s8, s9⟩ := hSw; go_simp; (try with_reducible rfl); done)
                        try simp only [List.getElem_toArray, List.getElem_cons_zero, List.getElem_cons_succ, Act.put, List.setIfInBounds_toArray, List.set_cons_zero, List.set_cons_succ]
                        refine wpAnyH_take (i := 16) (oi := _) (v := ?_) rfl (by kernel_rfl) (by kernel_rfl) (by kernel_rfl) (fun _ _ _ h => h) (Or.inl ⟨by kernel_rfl, ?_⟩) (by assumption) ?_
                        rotate_left 1
                        focus (intro wq hSw; (try dsimp only at hSw); obtain ⟨s0, s1, s2, s3, s4, s5, s6, s7, s8, s9⟩ := hSw; go_simp; (try with_reducible rfl); done)
                        try simp only [List.getElem_toArray, List.getElem_cons_zero, List.getElem_cons_succ, Act.put, List.setIfInBounds_toArray, List.set_cons_zero, List.set_cons_succ]
                        refine wpAnyH_take (i := 17) (oi := _) (v := ?_) rfl (by kernel_rfl) (by kernel_rfl) (by kernel_rfl) (fun _ _ _ h => h) (Or.inl ⟨by kernel_rfl, ?_⟩) (by assumption) ?_
                        rotate_left 1
                        focus (intro wq hSw; (try dsimp only at hSw); obtain ⟨s0, s1, s2, s3, s4, s5, s6, s7, s8, s9⟩ := hSw; go_simp; (try with_reducible rfl); done)
                        try simp only [List.getElem_toArray, List.getElem_cons_zero, List.getElem_cons_succ, Act.put, List.setIfInBounds_toArray, List.set_cons_zero, List.set_cons_succ]
                        refine wpAnyH_take (i := 18) (oi := _) (v := ?_) rfl (by kernel_rfl) (by kernel_rfl) (by kernel_rfl) (fun _ _ _ h => h) (Or.inl ⟨by kernel_rfl, ?_⟩) (by assumption) ?_
                        rotate_left 1
                        focus (intro wq hSw; (try dsimp only at hSw); obtain ⟨s0, s1, s2, s3, s4, s5, s6, s7, s8, s9⟩ := hSw; go_simp; (try with_reducible rfl); done)
                        try simp only [List.getElem_toArray, List.getElem_cons_zero, List.getElem_cons_succ, Act.put, List.setIfInBounds_toArray, List.set_cons_zero, List.set_cons_succ]
                        refine wpAnyH_take (i := 20) (oi := _) (v := ?_) rfl (by kernel_rfl) (by kernel_rfl) (by kernel_rfl) (fun _ _ _ h => h) (Or.inl ⟨by kernel_rfl, ?_⟩) (by assumption) ?_
                        rotate_left 1
                        focus (intro wq hSw; (try dsimp only at hSw); obtain ⟨s0, s1, s2, s3, s4, s5, s6, s7, s8, s9⟩ := hSw; go_simp; (try with_reducible rfl); done)
                        try simp only [List.getElem_toArray, List.getElem_cons_zero, List.getElem_cons_succ, Act.put, List.setIfInBounds_toArray, List.set_cons_zero, List.set_cons_succ]
                        refine wpAnyH_take (i := 21) (oi := _) (v := ?_) rfl (by kernel_rfl) (by kernel_rfl) (by kernel_rfl) (fun _ _ _ h => h) (Or.inl ⟨by kernel_rfl, ?_⟩) (by assumption) ?_
                        rotate_left 1
                        focus (intro wq hSw; (try dsimp only at hSw); obtain ⟨s0, s1, s2, s3, s4, s5, s6, s7, s8, s9⟩ := hSw; go_simp; (try with_reducible rfl); done)
                        try simp only [List.getElem_toArray, List.getElem_cons_zero, List.getElem_cons_succ, Act.put, List.setIfInBounds_toArray, List.set_cons_zero, List.set_cons_succ]
                        refine wpAnyH_ready (rs := [19]) (by kernel_rfl) (by simp) ?_
                        refine AllReadyH.cons (o := _) rfl (fun K hK => ?_) AllReadyH.nil
                        rw [if_pos (by kernel_rfl)]
                        go_simp
                        (go_at_call 15; (with_reducible refine (CH0.out _ hHeld.2.2.2.2.2.2.2.2.2.out.1).mono ?_); rintro e z116 ⟨rfl, q⟩; have q := q.out)
                        first | refine hK.out _ _ ?_ (fun hHeld => ?_) | (go_wp2_with fail; refine hK.out _ _ ?_ (fun hHeld => ?_))
                        · exact HS.out _ (hHeld.2.2.2.2.2.2.2.2.2.out.1.trans (q.mono hHeld.2.2.2.2.2.2.2.2.2.out.1.size)) (hHeld.2.2.2.2.2.2.2.2.2.out.2.trans (q.mono hHeld.2.2.2.2.2.2.2.2.2.out.2.size))
                        clear hK K
                        try simp only [List.getElem_toArray, List.getElem_cons_zero, List.getElem_cons_succ, Act.put, List.setIfInBounds_toArray, List.set_cons_zero, List.set_cons_succ]
                        refine wpAnyH_ready (rs := [22]) (by kernel_rfl) (by simp) ?_
                        refine AllReadyH.cons (o := _) rfl (fun K hK => ?_) AllReadyH.nil
                        rw [if_pos (by kernel_rfl)]
                        go_simp
                        (go_at_call 15; (with_reducible refine (CH1.out _ hHeld.2.2.2.2.2.2.2.2.2.out.1).mono ?_); rintro e z119 ⟨rfl, q⟩; have q := q.out)
                        first | refine hK.out _ _ ?_ (fun hHeld => ?_) | (go_wp2_with fail; refine hK.out _ _ ?_ (fun hHeld => ?_))
                        · exact HS.out _ (hHeld.2.2.2.2.2.2.2.2.2.out.1.trans (q.mono hHeld.2.2.2.2.2.2.2.2.2.out.1.size)) (hHeld.2.2.2.2.2.2.2.2.2.out.2.trans (q.mono hHeld.2.2.2.2.2.2.2.2.2.out.2.size))
                        clear hK K
                        try simp only [List.getElem_toArray, List.getElem_cons_zero, List.getElem_cons_succ, Act.put, List.setIfInBounds_toArray, List.set_cons_zero, List.set_cons_succ]
                        refine wpAnyH_take (i := 23) (oi := _) (v := ?_) rfl (by kernel_rfl) (by kernel_rfl) (by kernel_rfl) (fun _ _ _ h => h) (Or.inl ⟨by kernel_rfl, ?_⟩) (by assumption) ?_
                        rotate_left 1
                        focus (intro wq hSw; (try dsimp only at hSw); obtain ⟨s0, s1, s2, s3, s4, s5, s6, s7, s8, s9⟩ := hSw; go_simp; (try with_reducible rfl); done)
                        try simp only [List.getElem_toArray, List.getElem_cons_zero, List.getElem_cons_succ, Act.put, List.setIfInBounds_toArray, List.set_cons_zero, List.set_cons_succ]
                        refine wpAnyH_take (i := 24) (oi := _) (v := ?_) rfl (by kernel_rfl) (by kernel_rfl) (by kernel_rfl) (fun _ _ _ h => h) (Or.inl ⟨by kernel_rfl, ?_⟩) (by assumption) ?_
                        rotate_left 1
                        focus (intro wq hSw; (try dsimp only at hSw); obtain ⟨s0, s1, s2, s3, s4, s5, s6, s7, s8, s9⟩ := hSw; go_simp; (try with_reducible rfl); done)
                        try simp only [List.getElem_toArray, List.getElem_cons_zero, List.getElem_cons_succ, Act.put, List.setIfInBounds_toArray, List.set_cons_zero, List.set_cons_succ]
                        refine wpAnyH_take (i := 25) (oi := _) (v := ?_) rfl (by kernel_rfl) (by kernel_rfl) (by kernel_rfl) (fun _ _ _ h => h) (Or.inl ⟨by kernel_rfl, ?_⟩) (by assumption) ?_
                        rotate_left 1
                        focus (intro wq hSw; (try dsimp only at hSw); obtain ⟨s0, s1, s2, s3, s4, s5, s6, s7, s8, s9⟩ := hSw; go_simp; (try with_reducible rfl); done)
                        try simp only [List.getElem_toArray, List.getElem_cons_zero, List.getElem_cons_succ, Act.put, List.setIfInBounds_toArray, List.set_cons_zero, List.set_cons_succ]
                        refine wpAnyH_ready (rs := [26]) (by kernel_rfl) (by simp) ?_
                        refine AllReadyH.cons (o := _) rfl (fun K hK => ?_) AllReadyH.nil
                        rw [if_pos (by kernel_rfl)]
                        go_simp
                        (go_at_call 15; (with_reducible refine (CH2.out _ hHeld.2.2.2.2.2.2.2.2.2.out.1).mono ?_); rintro e z123 ⟨rfl, q⟩; have q := q.out)
                        first | refine hK.out _ _ ?_ (fun hHeld => ?_) | (go_wp2_with fail; refine hK.out _ _ ?_ (fun hHeld => ?_))
                        · exact HS.out _ (hHeld.2.2.2.2.2.2.2.2.2.out.1.trans (q.mono hHeld.2.2.2.2.2.2.2.2.2.out.1.size)) (hHeld.2.2.2.2.2.2.2.2.2.out.2.trans (q.mono hHeld.2.2.2.2.2.2.2.2.2.out.2.size))
                        clear hK K
                        try simp only [List.getElem_toArray, List.getElem_cons_zero, List.getElem_cons_succ, Act.put, List.setIfInBounds_toArray, List.set_cons_zero, List.set_cons_succ]
                        refine wpAnyH_take (i := 27) (oi := _) (v := ?_) rfl (by kernel_rfl) (by kernel_rfl) (by kernel_rfl) (fun _ _ _ h => h) (Or.inl ⟨by kernel_rfl, ?_⟩) (by assumption) ?_
                        rotate_left 1
                        focus (intro wq hSw; (try dsimp only at hSw); obtain ⟨s0, s1, s2, s3, s4, s5, s6, s7, s8, s9⟩ := hSw; go_simp; (try with_reducible rfl); done)
                        try simp only [List.getElem_toArray, List.getElem_cons_zero, List.getElem_cons_succ, Act.put, List.setIfInBounds_toArray, List.set_cons_zero, List.set_cons_succ]
                        refine wpAnyH_take (i := 28) (oi := _) (v := ?_) rfl (by kernel_rfl) (by kernel_rfl) (by kernel_rfl) (fun _ _ _ h => h) (Or.inl ⟨by kernel_rfl, ?_⟩) (by assumption) ?_
                        rotate_left 1
                        focus (intro wq hSw; (try dsimp only at hSw); obtain ⟨s0, s1, s2, s3, s4, s5, s6, s7, s8, s9⟩ := hSw; go_simp; (try with_reducible rfl); done)
                        try simp only [List.getElem_toArray, List.getElem_cons_zero, List.getElem_cons_succ, Act.put, List.setIfInBounds_toArray, List.set_cons_zero, List.set_cons_succ]
                        refine wpAnyH_take (i := 29) (oi := _) (v := ?_) rfl (by kernel_rfl) (by kernel_rfl) (by kernel_rfl) (fun _ _ _ h => h) (Or.inl ⟨by kernel_rfl, ?_⟩) (by assumption) ?_
                        rotate_left 1
                        focus (intro wq hSw; (try dsimp only at hSw); obtain ⟨s0, s1, s2, s3, s4, s5, s6, s7, s8, s9⟩ := hSw; go_simp; (try with_reducible rfl); done)
                        try simp only [List.getElem_toArray, List.getElem_cons_zero, List.getElem_cons_succ, Act.put, List.setIfInBounds_toArray, List.set_cons_zero, List.set_cons_succ]
                        refine wpAnyH_take (i := 30) (oi := _) (v := ?_) rfl (by kernel_rfl) (by kernel_rfl) (by kernel_rfl) (fun _ _ _ h => h) (Or.inl ⟨by kernel_rfl, ?_⟩) (by assumption) ?_
                        rotate_left 1
                        focus (intro wq hSw; (try dsimp only at hSw); obtain ⟨s0, s1, s2, s3, s4, s5, s6, s7, s8, s9⟩ := hSw; go_simp; (try with_reducible rfl); done)
                        try simp only [List.getElem_toArray, List.getElem_cons_zero, List.getElem_cons_succ, Act.put, List.setIfInBounds_toArray, List.set_cons_zero, List.set_cons_succ]
                        refine wpAnyH_ready (rs := [31]) (by kernel_rfl) (by simp) ?_
                        refine AllReadyH.cons (o := _) rfl (fun K hK => ?_) AllReadyH.nil
                        rw [if_pos (by kernel_rfl)]
                        go_simp
                        (go_at_call 8; (with_reducible refine (HAW.out _).mono ?_); rintro e z128 ⟨rfl, q⟩)
                        first | refine hK.out _ _ ?_ (fun hHeld => ?_) | (go_wp2_with fail; refine hK.out _ _ ?_ (fun hHeld => ?_))
                        · exact HS.out _ (hHeld.2.2.2.2.2.2.2.2.2.out.1.trans (q.mono hHeld.2.2.2.2.2.2.2.2.2.out.1.size)) (hHeld.2.2.2.2.2.2.2.2.2.out.2.trans (q.mono hHeld.2.2.2.2.2.2.2.2.2.out.2.size))
                        clear hK K
                        try simp only [List.getElem_toArray, List.getElem_cons_zero, List.getElem_cons_succ, Act.put, List.setIfInBounds_toArray, List.set_cons_zero, List.set_cons_succ]
                        refine wpAnyH_take (i := 32) (oi := _) (v := ?_) rfl (by kernel_rfl) (by kernel_rfl) (by kernel_rfl) (fun _ _ _ h => h) (Or.inl ⟨by kernel_rfl, ?_⟩) (by assumption) ?_
                        rotate_left 1
                        focus (intro wq hSw; (try dsimp only at hSw); obtain ⟨s0, s1, s2, s3, s4, s5, s6, s7, s8, s9⟩ := hSw; go_simp; (try with_reducible rfl); done)
                        try simp only [List.getElem_toArray, List.getElem_cons_zero, List.getElem_cons_succ, Act.put, List.setIfInBounds_toArray, List.set_cons_zero, List.set_cons_succ]
                        refine wpAnyH_take (i := 33) (oi := _) (v := ?_) rfl (by kernel_rfl) (by kernel_rfl) (by kernel_rfl) (fun _ _ _ h => h) (Or.inl ⟨by kernel_rfl, ?_⟩) (by assumption) ?_
                        rotate_left 1
                        focus (intro wq hSw; (try dsimp only at hSw); obtain ⟨s0, s1, s2, s3, s4, s5, s6, s7, s8, s9⟩ := hSw; go_simp; (try with_reducible rfl); done)
                        try simp only [List.getElem_toArray, List.getElem_cons_zero, List.getElem_cons_succ, Act.put, List.setIfInBounds_toArray, List.set_cons_zero, List.set_cons_succ]
                        refine wpAnyH_done (by kernel_rfl) ?_ _
                        have HX := Lib.hid hHeld.2.2.2.2.2.2.2.2.2.out.1
                        clear hHeld
                        go_wp2
                        go_returns
                        exact ⟨rfl, HW4.out.trans (HX.out.mono HW4.out.size)⟩
                    · have z0 : ¬ L0 = [] := by rw [HSUM.out]; simp [z1]
                      have z3 : ¬ n0 = 0 := fun e => z0 (List.eq_nil_of_length_eq_zero (by rw [HEd.out]; exact e))
                      have t1 : ((n0 : Int) == 0) = false := by simp; exact z3
                      obtain ⟨hb2, hh2⟩ : ∃ r : Bool, r = true ↔ HoldsN ⟨(nv : Int), fo, fn, fc, o2, kn - k, c2, fs, ks.drop k⟩ T := by classical exact ⟨decide _, decide_eq_true_iff⟩
                      have CH0 : Hid (∀ W, Below v4.heap.size v4 W → Calls Try.prog 15 #[.agg #[.int .i64 (nv : Int), .slice fo fn fc, .slice ko kn kc], .slice tao nv tk] W fun e w' => e = .returned (.bool false) ∧ Hid (Below W.heap.size W w')) := Lib.hid (fun W h => holds_any ⟨(nv : Int), fo, fn, fc, ko, kn, kc, fs, ks⟩ tao nv tk T W (HA0.out.keep h) (HTK.out.keep h) HRT.out (show kn ≤ 1000000 by omega) p (fun i hi => HPP.out i hi) false ⟨fun z => (by cases z), fun z => absurd (HH0.out.1 z) z0⟩)
                      have CH1 : Hid (∀ W, Below v4.heap.size v4 W → Calls Try.prog 15 #[.agg #[.int .i64 (nv : Int), .slice fo fn fc, .slice o1 k c1], .slice tao nv tk] W fun e w' => e = .returned (.bool false) ∧ Hid (Below W.heap.size W w')) := Lib.hid (fun W h => holds_any ⟨(nv : Int), fo, fn, fc, o1, k, c1, fs, ks.take k⟩ tao nv tk T W (HA1.out.keep h) (HTK.out.keep h) HRT.out (show k ≤ 1000000 by omega) p (fun i hi => by have hi2 : i < ks.length := (by simp only [List.length_take] at hi; omega); have q := HPP.out i hi2; rw [q]; simp only [List.getElem_take]) false ⟨fun z => (by cases z), fun z => absurd (HH1.out.1 z) z1⟩)
                      have CH2 : Hid (∀ W, Below v4.heap.size v4 W → Calls Try.prog 15 #[.agg #[.int .i64 (nv : Int), .slice fo fn fc, .slice o2 (kn - k) c2], .slice tao nv tk] W fun e w' => e = .returned (.bool hb2) ∧ Hid (Below W.heap.size W w')) := Lib.hid (fun W h => holds_any ⟨(nv : Int), fo, fn, fc, o2, kn - k, c2, fs, ks.drop k⟩ tao nv tk T W (HA2.out.keep h) (HTK.out.keep h) HRT.out (show kn - k ≤ 1000000 by omega) (fun i => p (k + i)) (fun i hi => by have hi2 : k + i < ks.length := (by simp only [List.length_drop] at hi; omega); have q := HPP.out (k + i) hi2; rw [q]; simp only [List.getElem_drop]) hb2 hh2)
                      clear HRO HPP HRT HTK HA0 HA1 HA2 HL0 HL1 HL2 HEa HEc HEd HSUM HLN HBD HH0 HH1 HH2 E0 E1 E2 HOT z0 z1 hh2 CH2
                      refine wp_region_held_drew (S := (fun W => W.cell? ⟨b, 0, none⟩ = some (.int .i64 (nv : Int)) ∧ W.cell? ⟨b, 1, none⟩ = some (.slice fo fn fc) ∧ W.cell? ⟨b, 2, none⟩ = some (.slice ko kn kc) ∧ W.cell? ⟨b8, 0, none⟩ = some (.int .i64 (nv : Int)) ∧ W.cell? ⟨b8, 1, none⟩ = some (.slice fo fn fc) ∧ W.cell? ⟨b8, 2, none⟩ = some (.slice o1 k c1) ∧ W.cell? ⟨b9, 0, none⟩ = some (.int .i64 (nv : Int)) ∧ W.cell? ⟨b9, 1, none⟩ = some (.slice fo fn fc) ∧ W.cell? ⟨b9, 2, none⟩ = some (.slice o2 (kn - k) c2) ∧ Hid (Below v4.heap.size v4 W ∧ Below w8.heap.size w8 W))) (by kernel_rfl) ?_ (fun hHeld => ?_)
                      · exact HS.out _ (HX.out.trans (Below.refl _ _).drew) (Below.refl _ _).drew
                      refine wpAnyH_take (i := 0) (oi := _) (v := ?_) rfl (by kernel_rfl) (by kernel_rfl) (by kernel_rfl) (fun _ _ _ h => h) (Or.inl ⟨by kernel_rfl, ?_⟩) (by assumption) ?_
                      rotate_left 1
                      focus (intro wq hSw; (try dsimp only at hSw); obtain ⟨s0, s1, s2, s3, s4, s5, s6, s7, s8, s9⟩ := hSw; go_simp; (try with_reducible rfl); done)
                      try simp only [List.getElem_toArray, List.getElem_cons_zero, List.getElem_cons_succ, Act.put, List.setIfInBounds_toArray, List.set_cons_zero, List.set_cons_succ]
                      refine wpAnyH_take (i := 1) (oi := _) (v := ?_) rfl (by kernel_rfl) (by kernel_rfl) (by kernel_rfl) (fun _ _ _ h => h) (Or.inl ⟨by kernel_rfl, ?_⟩) (by assumption) ?_
                      rotate_left 1
                      focus (intro wq hSw; (try dsimp only at hSw); obtain ⟨s0, s1, s2, s3, s4, s5, s6, s7, s8, s9⟩ := hSw; go_simp; (try with_reducible rfl); done)
                      try simp only [List.getElem_toArray, List.getElem_cons_zero, List.getElem_cons_succ, Act.put, List.setIfInBounds_toArray, List.set_cons_zero, List.set_cons_succ]
                      refine wpAnyH_ready (rs := [2]) (by kernel_rfl) (by simp) ?_
                      refine AllReadyH.cons (o := _) rfl (fun K hK => ?_) AllReadyH.nil
                      rw [if_pos (by kernel_rfl)]
                      go_simp
                      (go_at_call 14; (with_reducible refine (CI.out _ hHeld.2.2.2.2.2.2.2.2.2.out.2).mono ?_); rintro e z99 ⟨rfl, q⟩)
                      first | refine hK.out _ _ ?_ (fun hHeld => ?_) | (go_wp2_with fail; refine hK.out _ _ ?_ (fun hHeld => ?_))
                      · exact HS.out _ (hHeld.2.2.2.2.2.2.2.2.2.out.1.trans (q.mono hHeld.2.2.2.2.2.2.2.2.2.out.1.size)) (hHeld.2.2.2.2.2.2.2.2.2.out.2.trans (q.mono hHeld.2.2.2.2.2.2.2.2.2.out.2.size))
                      clear hK K
                      try simp only [List.getElem_toArray, List.getElem_cons_zero, List.getElem_cons_succ, Act.put, List.setIfInBounds_toArray, List.set_cons_zero, List.set_cons_succ]
                      refine wpAnyH_take (i := 3) (oi := _) (v := ?_) rfl (by kernel_rfl) (by kernel_rfl) (by kernel_rfl) (fun _ _ _ h => h) (Or.inl ⟨by kernel_rfl, ?_⟩) (by assumption) ?_
                      rotate_left 1
                      focus (intro wq hSw; (try dsimp only at hSw); obtain ⟨s0, s1, s2, s3, s4, s5, s6, s7, s8, s9⟩ := hSw; go_simp; (try with_reducible rfl); done)
                      try simp only [List.getElem_toArray, List.getElem_cons_zero, List.getElem_cons_succ, Act.put, List.setIfInBounds_toArray, List.set_cons_zero, List.set_cons_succ]
                      refine wpAnyH_take (i := 4) (oi := _) (v := ?_) rfl (by kernel_rfl) (by kernel_rfl) (by kernel_rfl) (fun _ _ _ h => h) (Or.inl ⟨by kernel_rfl, ?_⟩) (by assumption) ?_
                      rotate_left 1
                      focus (intro wq hSw; (try dsimp only at hSw); obtain ⟨s0, s1, s2, s3, s4, s5, s6, s7, s8, s9⟩ := hSw; go_simp; (try with_reducible rfl); done)
                      try simp only [List.getElem_toArray, List.getElem_cons_zero, List.getElem_cons_succ, Act.put, List.setIfInBounds_toArray, List.set_cons_zero, List.set_cons_succ]
                      refine wpAnyH_take (i := 5) (oi := _) (v := ?_) rfl (by kernel_rfl) (by kernel_rfl) (by kernel_rfl) (fun _ _ _ h => h) (Or.inl ⟨by kernel_rfl, ?_⟩) (by assumption) ?_
                      rotate_left 1
                      focus (intro wq hSw; (try dsimp only at hSw); obtain ⟨s0, s1, s2, s3, s4, s5, s6, s7, s8, s9⟩ := hSw; go_simp; (try with_reducible rfl); done)
                      try simp only [List.getElem_toArray, List.getElem_cons_zero, List.getElem_cons_succ, Act.put, List.setIfInBounds_toArray, List.set_cons_zero, List.set_cons_succ]
                      refine wpAnyH_take (i := 7) (oi := _) (v := ?_) rfl (by kernel_rfl) (by kernel_rfl) (by kernel_rfl) (fun _ _ _ h => h) (Or.inl ⟨by kernel_rfl, ?_⟩) (by assumption) ?_
                      rotate_left 1
                      focus (intro wq hSw; (try dsimp only at hSw); obtain ⟨s0, s1, s2, s3, s4, s5, s6, s7, s8, s9⟩ := hSw; go_simp; (try with_reducible rfl); done)
                      try simp only [List.getElem_toArray, List.getElem_cons_zero, List.getElem_cons_succ, Act.put, List.setIfInBounds_toArray, List.set_cons_zero, List.set_cons_succ]
                      refine wpAnyH_take (i := 8) (oi := _) (v := ?_) rfl (by kernel_rfl) (by kernel_rfl) (by kernel_rfl) (fun _ _ _ h => h) (Or.inl ⟨by kernel_rfl, ?_⟩) (by assumption) ?_
                      rotate_left 1
                      focus (intro wq hSw; (try dsimp only at hSw); obtain ⟨s0, s1, s2, s3, s4, s5, s6, s7, s8, s9⟩ := hSw; go_simp; (try with_reducible rfl); done)
                      try simp only [List.getElem_toArray, List.getElem_cons_zero, List.getElem_cons_succ, Act.put, List.setIfInBounds_toArray, List.set_cons_zero, List.set_cons_succ]
                      refine wpAnyH_ready (rs := [6]) (by kernel_rfl) (by simp) ?_
                      refine AllReadyH.cons (o := _) rfl (fun K hK => ?_) AllReadyH.nil
                      rw [if_pos (by kernel_rfl)]
                      go_simp
                      (go_at_call 15; (with_reducible refine (CH0.out _ hHeld.2.2.2.2.2.2.2.2.2.out.1).mono ?_); rintro e z103 ⟨rfl, q⟩; have q := q.out)
                      first | refine hK.out _ _ ?_ (fun hHeld => ?_) | (go_wp2_with fail; refine hK.out _ _ ?_ (fun hHeld => ?_))
                      · exact HS.out _ (hHeld.2.2.2.2.2.2.2.2.2.out.1.trans (q.mono hHeld.2.2.2.2.2.2.2.2.2.out.1.size)) (hHeld.2.2.2.2.2.2.2.2.2.out.2.trans (q.mono hHeld.2.2.2.2.2.2.2.2.2.out.2.size))
                      clear hK K
                      try simp only [List.getElem_toArray, List.getElem_cons_zero, List.getElem_cons_succ, Act.put, List.setIfInBounds_toArray, List.set_cons_zero, List.set_cons_succ]
                      refine wpAnyH_take (i := 9) (oi := _) (v := ?_) rfl (by kernel_rfl) (by kernel_rfl) (by kernel_rfl) (fun _ _ _ h => h) (Or.inl ⟨by kernel_rfl, ?_⟩) (by assumption) ?_
                      rotate_left 1
                      focus (intro wq hSw; (try dsimp only at hSw); obtain ⟨s0, s1, s2, s3, s4, s5, s6, s7, s8, s9⟩ := hSw; go_simp; (try with_reducible rfl); done)
                      try simp only [List.getElem_toArray, List.getElem_cons_zero, List.getElem_cons_succ, Act.put, List.setIfInBounds_toArray, List.set_cons_zero, List.set_cons_succ]
                      refine wpAnyH_take (i := 10) (oi := _) (v := ?_) rfl (by kernel_rfl) (by kernel_rfl) (by kernel_rfl) (fun _ _ _ h => h) (Or.inl ⟨by kernel_rfl, ?_⟩) (by assumption) ?_
                      rotate_left 1
                      focus (intro wq hSw; (try dsimp only at hSw); obtain ⟨s0, s1, s2, s3, s4, s5, s6, s7, s8, s9⟩ := hSw; go_simp; (try with_reducible rfl); done)
                      try simp only [List.getElem_toArray, List.getElem_cons_zero, List.getElem_cons_succ, Act.put, List.setIfInBounds_toArray, List.set_cons_zero, List.set_cons_succ]
                      refine wpAnyH_take (i := 11) (oi := _) (v := ?_) rfl (by kernel_rfl) (by kernel_rfl) (by kernel_rfl) (fun _ _ _ h => h) (Or.inl ⟨by kernel_rfl, ?_⟩) (by assumption) ?_
                      rotate_left 1
                      focus (intro wq hSw; (try dsimp only at hSw); obtain ⟨s0, s1, s2, s3, s4, s5, s6, s7, s8, s9⟩ := hSw; go_simp; (try with_reducible rfl); done)
                      try simp only [List.getElem_toArray, List.getElem_cons_zero, List.getElem_cons_succ, Act.put, List.setIfInBounds_toArray, List.set_cons_zero, List.set_cons_succ]
                      refine wpAnyH_take (i := 12) (oi := _) (v := ?_) rfl (by kernel_rfl) (by kernel_rfl) (by kernel_rfl) (fun _ _ _ h => h) (Or.inl ⟨by kernel_rfl, ?_⟩) (by assumption) ?_
                      rotate_left 1
                      focus (intro wq hSw; (try dsimp only at hSw); obtain ⟨s0, s1, s2, s3, s4, s5, s6, s7, s8, s9⟩ := hSw; go_simp; (try with_reducible rfl); done)
                      try simp only [List.getElem_toArray, List.getElem_cons_zero, List.getElem_cons_succ, Act.put, List.setIfInBounds_toArray, List.set_cons_zero, List.set_cons_succ]
                      refine wpAnyH_take (i := 13) (oi := _) (v := ?_) rfl (by kernel_rfl) (by kernel_rfl) (by kernel_rfl) (fun _ _ _ h => h) (Or.inl ⟨by kernel_rfl, ?_⟩) (by assumption) ?_
                      rotate_left 1
                      focus (intro wq hSw; (try dsimp only at hSw); obtain ⟨s0, s1, s2, s3, s4, s5, s6, s7, s8, s9⟩ := hSw; go_simp; (try with_reducible rfl); done)
                      try simp only [List.getElem_toArray, List.getElem_cons_zero, List.getElem_cons_succ, Act.put, List.setIfInBounds_toArray, List.set_cons_zero, List.set_cons_succ]
                      refine wpAnyH_take (i := 14) (oi := _) (v := ?_) rfl (by kernel_rfl) (by kernel_rfl) (by kernel_rfl) (fun _ _ _ h => h) (Or.inl ⟨by kernel_rfl, ?_⟩) (by assumption) ?_
                      rotate_left 1
                      focus (intro wq hSw; (try dsimp only at hSw); obtain ⟨s0, s1, s2, s3, s4, s5, s6, s7, s8, s9⟩ := hSw; go_simp; (try with_reducible rfl); done)
                      try simp only [List.getElem_toArray, List.getElem_cons_zero, List.getElem_cons_succ, Act.put, List.setIfInBounds_toArray, List.set_cons_zero, List.set_cons_succ]
                      refine wpAnyH_take (i := 15) (oi := _) (v := ?_) rfl (by kernel_rfl) (by kernel_rfl) (by kernel_rfl) (fun _ _ _ h => h) (Or.inl ⟨by kernel_rfl, ?_⟩) (by assumption) ?_
                      rotate_left 1
                      focus (intro wq hSw; (try dsimp only at hSw); obtain ⟨s0, s1, s2, s3, s4, s5, s6, s7, s8, s9⟩ := hSw; go_simp; (try with_reducible rfl); done)
                      try simp only [List.getElem_toArray, List.getElem_cons_zero, List.getElem_cons_succ, Act.put, List.setIfInBounds_toArray, List.set_cons_zero, List.set_cons_succ]
                      refine wpAnyH_take (i := 16) (oi := _) (v := ?_) rfl (by kernel_rfl) (by kernel_rfl) (by kernel_rfl) (fun _ _ _ h => h) (Or.inl ⟨by kernel_rfl, ?_⟩) (by assumption) ?_
                      rotate_left 1
                      focus (intro wq hSw; (try dsimp only at hSw); obtain ⟨s0, s1, s2, s3, s4, s5, s6, s7, s8, s9⟩ := hSw; go_simp; (try with_reducible rfl); done)
                      try simp only [List.getElem_toArray, List.getElem_cons_zero, List.getElem_cons_succ, Act.put, List.setIfInBounds_toArray, List.set_cons_zero, List.set_cons_succ]
                      refine wpAnyH_take (i := 17) (oi := _) (v := ?_) rfl (by kernel_rfl) (by kernel_rfl) (by kernel_rfl) (fun _ _ _ h => h) (Or.inl ⟨by kernel_rfl, ?_⟩) (by assumption) ?_
                      rotate_left 1
                      focus (intro wq hSw; (try dsimp only at hSw); obtain ⟨s0, s1, s2, s3, s4, s5, s6, s7, s8, s9⟩ := hSw; go_simp; (try with_reducible rfl); done)
                      try simp only [List.getElem_toArray, List.getElem_cons_zero, List.getElem_cons_succ, Act.put, List.setIfInBounds_toArray, List.set_cons_zero, List.set_cons_succ]
                      refine wpAnyH_take (i := 18) (oi := _) (v := ?_) rfl (by kernel_rfl) (by kernel_rfl) (by kernel_rfl) (fun _ _ _ h => h) (Or.inl ⟨by kernel_rfl, ?_⟩) (by assumption) ?_
                      rotate_left 1
                      focus (intro wq hSw; (try dsimp only at hSw); obtain ⟨s0, s1, s2, s3, s4, s5, s6, s7, s8, s9⟩ := hSw; go_simp; (try with_reducible rfl); done)
                      try simp only [List.getElem_toArray, List.getElem_cons_zero, List.getElem_cons_succ, Act.put, List.setIfInBounds_toArray, List.set_cons_zero, List.set_cons_succ]
                      refine wpAnyH_take (i := 20) (oi := _) (v := ?_) rfl (by kernel_rfl) (by kernel_rfl) (by kernel_rfl) (fun _ _ _ h => h) (Or.inl ⟨by kernel_rfl, ?_⟩) (by assumption) ?_
                      rotate_left 1
                      focus (intro wq hSw; (try dsimp only at hSw); obtain ⟨s0, s1, s2, s3, s4, s5, s6, s7, s8, s9⟩ := hSw; go_simp; (try with_reducible rfl); done)
                      try simp only [List.getElem_toArray, List.getElem_cons_zero, List.getElem_cons_succ, Act.put, List.setIfInBounds_toArray, List.set_cons_zero, List.set_cons_succ]
                      refine wpAnyH_take (i := 21) (oi := _) (v := ?_) rfl (by kernel_rfl) (by kernel_rfl) (by kernel_rfl) (fun _ _ _ h => h) (Or.inl ⟨by kernel_rfl, ?_⟩) (by assumption) ?_
                      rotate_left 1
                      focus (intro wq hSw; (try dsimp only at hSw); obtain ⟨s0, s1, s2, s3, s4, s5, s6, s7, s8, s9⟩ := hSw; go_simp; (try with_reducible rfl); done)
                      try simp only [List.getElem_toArray, List.getElem_cons_zero, List.getElem_cons_succ, Act.put, List.setIfInBounds_toArray, List.set_cons_zero, List.set_cons_succ]
                      refine wpAnyH_ready (rs := [19]) (by kernel_rfl) (by simp) ?_
                      refine AllReadyH.cons (o := _) rfl (fun K hK => ?_) AllReadyH.nil
                      rw [if_pos (by kernel_rfl)]
                      go_simp
                      (go_at_call 15; (with_reducible refine (CH0.out _ hHeld.2.2.2.2.2.2.2.2.2.out.1).mono ?_); rintro e z116 ⟨rfl, q⟩; have q := q.out)
                      first | refine hK.out _ _ ?_ (fun hHeld => ?_) | (go_wp2_with fail; refine hK.out _ _ ?_ (fun hHeld => ?_))
                      · exact HS.out _ (hHeld.2.2.2.2.2.2.2.2.2.out.1.trans (q.mono hHeld.2.2.2.2.2.2.2.2.2.out.1.size)) (hHeld.2.2.2.2.2.2.2.2.2.out.2.trans (q.mono hHeld.2.2.2.2.2.2.2.2.2.out.2.size))
                      clear hK K
                      try simp only [List.getElem_toArray, List.getElem_cons_zero, List.getElem_cons_succ, Act.put, List.setIfInBounds_toArray, List.set_cons_zero, List.set_cons_succ]
                      refine wpAnyH_ready (rs := [22]) (by kernel_rfl) (by simp) ?_
                      refine AllReadyH.cons (o := _) rfl (fun K hK => ?_) AllReadyH.nil
                      rw [if_pos (by kernel_rfl)]
                      go_simp
                      (go_at_call 15; (with_reducible refine (CH1.out _ hHeld.2.2.2.2.2.2.2.2.2.out.1).mono ?_); rintro e z119 ⟨rfl, q⟩; have q := q.out)
                      first | refine hK.out _ _ ?_ (fun hHeld => ?_) | (go_wp2_with fail; refine hK.out _ _ ?_ (fun hHeld => ?_))
                      · exact HS.out _ (hHeld.2.2.2.2.2.2.2.2.2.out.1.trans (q.mono hHeld.2.2.2.2.2.2.2.2.2.out.1.size)) (hHeld.2.2.2.2.2.2.2.2.2.out.2.trans (q.mono hHeld.2.2.2.2.2.2.2.2.2.out.2.size))
                      clear hK K
                      try simp only [List.getElem_toArray, List.getElem_cons_zero, List.getElem_cons_succ, Act.put, List.setIfInBounds_toArray, List.set_cons_zero, List.set_cons_succ]
                      refine wpAnyH_take (i := 23) (oi := _) (v := ?_) rfl (by kernel_rfl) (by kernel_rfl) (by kernel_rfl) (fun _ _ _ h => h) (Or.inl ⟨by kernel_rfl, ?_⟩) (by assumption) ?_
                      rotate_left 1
                      focus (intro wq hSw; (try dsimp only at hSw); obtain ⟨s0, s1, s2, s3, s4, s5, s6, s7, s8, s9⟩ := hSw; go_simp; (try with_reducible rfl); done)
                      try simp only [List.getElem_toArray, List.getElem_cons_zero, List.getElem_cons_succ, Act.put, List.setIfInBounds_toArray, List.set_cons_zero, List.set_cons_succ]
                      refine wpAnyH_take (i := 24) (oi := _) (v := undef) rfl (by kernel_rfl) (by kernel_rfl) (by kernel_rfl) (fun _ _ _ h => h) (Or.inr ⟨by kernel_rfl, rfl⟩) (by assumption) ?_
                      try simp only [List.getElem_toArray, List.getElem_cons_zero, List.getElem_cons_succ, Act.put, List.setIfInBounds_toArray, List.set_cons_zero, List.set_cons_succ]
                      refine wpAnyH_take (i := 25) (oi := _) (v := undef) rfl (by kernel_rfl) (by kernel_rfl) (by kernel_rfl) (fun _ _ _ h => h) (Or.inr ⟨by kernel_rfl, rfl⟩) (by assumption) ?_
                      try simp only [List.getElem_toArray, List.getElem_cons_zero, List.getElem_cons_succ, Act.put, List.setIfInBounds_toArray, List.set_cons_zero, List.set_cons_succ]
                      refine wpAnyH_take (i := 26) (oi := _) (v := undef) rfl (by kernel_rfl) (by kernel_rfl) (by kernel_rfl) (fun _ _ _ h => h) (Or.inr ⟨by kernel_rfl, rfl⟩) (by assumption) ?_
                      try simp only [List.getElem_toArray, List.getElem_cons_zero, List.getElem_cons_succ, Act.put, List.setIfInBounds_toArray, List.set_cons_zero, List.set_cons_succ]
                      refine wpAnyH_take (i := 27) (oi := _) (v := ?_) rfl (by kernel_rfl) (by kernel_rfl) (by kernel_rfl) (fun _ _ _ h => h) (Or.inl ⟨by kernel_rfl, ?_⟩) (by assumption) ?_
                      rotate_left 1
                      focus (intro wq hSw; (try dsimp only at hSw); obtain ⟨s0, s1, s2, s3, s4, s5, s6, s7, s8, s9⟩ := hSw; go_simp; (try with_reducible rfl); done)
                      try simp only [List.getElem_toArray, List.getElem_cons_zero, List.getElem_cons_succ, Act.put, List.setIfInBounds_toArray, List.set_cons_zero, List.set_cons_succ]
                      refine wpAnyH_take (i := 28) (oi := _) (v := ?_) rfl (by kernel_rfl) (by kernel_rfl) (by kernel_rfl) (fun _ _ _ h => h) (Or.inl ⟨by kernel_rfl, ?_⟩) (by assumption) ?_
                      rotate_left 1
                      focus (intro wq hSw; (try dsimp only at hSw); obtain ⟨s0, s1, s2, s3, s4, s5, s6, s7, s8, s9⟩ := hSw; go_simp; (try with_reducible rfl); done)
                      try simp only [List.getElem_toArray, List.getElem_cons_zero, List.getElem_cons_succ, Act.put, List.setIfInBounds_toArray, List.set_cons_zero, List.set_cons_succ]
                      refine wpAnyH_take (i := 29) (oi := _) (v := ?_) rfl (by kernel_rfl) (by kernel_rfl) (by kernel_rfl) (fun _ _ _ h => h) (Or.inl ⟨by kernel_rfl, ?_⟩) (by assumption) ?_
                      rotate_left 1
                      focus (intro wq hSw; (try dsimp only at hSw); obtain ⟨s0, s1, s2, s3, s4, s5, s6, s7, s8, s9⟩ := hSw; go_simp; (try with_reducible rfl); done)
                      try simp only [List.getElem_toArray, List.getElem_cons_zero, List.getElem_cons_succ, Act.put, List.setIfInBounds_toArray, List.set_cons_zero, List.set_cons_succ]
                      refine wpAnyH_take (i := 30) (oi := _) (v := ?_) rfl (by kernel_rfl) (by kernel_rfl) (by kernel_rfl) (fun _ _ _ h => h) (Or.inl ⟨by kernel_rfl, ?_⟩) (by assumption) ?_
                      rotate_left 1
                      focus (intro wq hSw; (try dsimp only at hSw); obtain ⟨s0, s1, s2, s3, s4, s5, s6, s7, s8, s9⟩ := hSw; go_simp; (try with_reducible rfl); done)
                      try simp only [List.getElem_toArray, List.getElem_cons_zero, List.getElem_cons_succ, Act.put, List.setIfInBounds_toArray, List.set_cons_zero, List.set_cons_succ]
                      refine wpAnyH_ready (rs := [31]) (by kernel_rfl) (by simp) ?_
                      refine AllReadyH.cons (o := _) rfl (fun K hK => ?_) AllReadyH.nil
                      rw [if_pos (by kernel_rfl)]
                      go_simp
                      (go_at_call 8; (with_reducible refine (HAW.out _).mono ?_); rintro e z128 ⟨rfl, q⟩)
                      first | refine hK.out _ _ ?_ (fun hHeld => ?_) | (go_wp2_with fail; refine hK.out _ _ ?_ (fun hHeld => ?_))
                      · exact HS.out _ (hHeld.2.2.2.2.2.2.2.2.2.out.1.trans (q.mono hHeld.2.2.2.2.2.2.2.2.2.out.1.size)) (hHeld.2.2.2.2.2.2.2.2.2.out.2.trans (q.mono hHeld.2.2.2.2.2.2.2.2.2.out.2.size))
                      clear hK K
                      try simp only [List.getElem_toArray, List.getElem_cons_zero, List.getElem_cons_succ, Act.put, List.setIfInBounds_toArray, List.set_cons_zero, List.set_cons_succ]
                      refine wpAnyH_take (i := 32) (oi := _) (v := ?_) rfl (by kernel_rfl) (by kernel_rfl) (by kernel_rfl) (fun _ _ _ h => h) (Or.inl ⟨by kernel_rfl, ?_⟩) (by assumption) ?_
                      rotate_left 1
                      focus (intro wq hSw; (try dsimp only at hSw); obtain ⟨s0, s1, s2, s3, s4, s5, s6, s7, s8, s9⟩ := hSw; go_simp; (try with_reducible rfl); done)
                      try simp only [List.getElem_toArray, List.getElem_cons_zero, List.getElem_cons_succ, Act.put, List.setIfInBounds_toArray, List.set_cons_zero, List.set_cons_succ]
                      refine wpAnyH_take (i := 33) (oi := _) (v := ?_) rfl (by kernel_rfl) (by kernel_rfl) (by kernel_rfl) (fun _ _ _ h => h) (Or.inl ⟨by kernel_rfl, ?_⟩) (by assumption) ?_
                      rotate_left 1
                      focus (intro wq hSw; (try dsimp only at hSw); obtain ⟨s0, s1, s2, s3, s4, s5, s6, s7, s8, s9⟩ := hSw; go_simp; (try with_reducible rfl); done)
                      try simp only [List.getElem_toArray, List.getElem_cons_zero, List.getElem_cons_succ, Act.put, List.setIfInBounds_toArray, List.set_cons_zero, List.set_cons_succ]
                      refine wpAnyH_done (by kernel_rfl) ?_ _
                      have HX := Lib.hid hHeld.2.2.2.2.2.2.2.2.2.out.1
                      clear hHeld
                      go_wp2
                      go_returns
                      exact ⟨rfl, HW4.out.trans (HX.out.mono HW4.out.size)⟩
end Go.Proofs.Ytaobhhgalkkmaaa
