/- Contracts: built: a network of raw input. -/
import Derived.Test.YtnhbinghinlhgaaJ
import Derived.Laws.AppendOwn
import Derived.OwnWalk
import Derived.Laws.BitsLemmas
import Derived.Deep.RegionHeld3
import Derived.Deep.DeepCutAuto
import Derived.Maps.AppendAt
namespace Go.Proofs.Ytnhbinghinlhgaa
set_option linter.unusedVariables false
set_option linter.unusedSimpArgs false
open Go.ChangeShapes Go.WideShapes Go.ChangeAt Go.RowKit

abbrev I64' (a : Int) : Prop := -9223372036854775808 ≤ a ∧ a ≤ 9223372036854775807
/-- Raw bounds in memory. -/
structure RawAt (w : World) (b o n : Nat) (I J X Y : Nat → Int) : Prop where
  c0 : ∀ t, t < n → w.cell? ⟨b, o + t * 4, none⟩ = some (.int .i64 (I t))
  c1 : ∀ t, t < n → w.cell? ⟨b, o + t * 4 + 1, none⟩ = some (.int .i64 (J t))
  c2 : ∀ t, t < n → w.cell? ⟨b, o + t * 4 + 2, none⟩ = some (.int .i8 (X t))
  c3 : ∀ t, t < n → w.cell? ⟨b, o + t * 4 + 3, none⟩ = some (.int .i64 (Y t))
  f0 : ∀ t, t < n → I64' (I t)
  f1 : ∀ t, t < n → I64' (J t)
  f3 : ∀ t, t < n → I64' (Y t)
theorem RawAt.keep {w w' : World} {b o n : Nat} {I J X Y : Nat → Int} (h : RawAt w b o n I J X Y) (k : Below w.heap.size w w') : RawAt w' b o n I J X Y :=
  ⟨fun t ht => cell_keep (h.c0 t ht) k, fun t ht => cell_keep (h.c1 t ht) k, fun t ht => cell_keep (h.c2 t ht) k, fun t ht => cell_keep (h.c3 t ht) k, h.f0, h.f1, h.f3⟩

def saidCells : List Said → List Value
  | [] => []
  | s :: S => .int .i64 (s.1 : Nat) :: .int .i64 (s.2.1 : Nat) :: .int .i8 (infOf s.2.2) :: .int .i64 (numOf s.2.2) :: saidCells S
theorem info28 : (Try.prog.info? 28).map (fun i => (i.zero, i.size, i.bytes)) = some (some (.agg #[.int .i64 0, .int .i64 0, .int .i8 0, .int .i64 0]), 4, 32) := by kernel_rfl

def BuiltIs (w w' : World) (n : Nat) (e : Ending) : Prop := ∃ M, Within n 1000 M ∧ Made w w' n M e

theorem keepB {w w' : World} {B e s n : Nat} {v : Value} {xs : List Value} (h : w.ownsRow B e s v n xs) (b : Below w.heap.size w w') : w'.ownsRow B e s v n xs := by
  obtain ⟨h1, h2⟩ := h
  refine ⟨h1, ?_⟩
  rcases h2 with h2 | ⟨g, cap, cur, e1, e2, e3, e4⟩
  · exact .inl h2
  · have lt : g < w.heap.size := by
      by_cases c : g < w.heap.size
      · exact c
      · rw [Array.getElem?_eq_none (by omega)] at e3; cases e3
    exact .inr ⟨g, cap, cur, e1, e2, by rw [b.block g lt]; exact e3, e4⟩
theorem saidCells_snoc (S : List Said) (s : Said) : saidCells (S ++ [s]) = saidCells S ++ [.int .i64 (s.1 : Nat), .int .i64 (s.2.1 : Nat), .int .i8 (infOf s.2.2), .int .i64 (numOf s.2.2)] := by
  induction S with
  | nil => rfl
  | cons x S ih => simp only [List.cons_append, saidCells, ih]
theorem row_snoc {w : World} {B : Nat} {v : Value} {S : List Said} (s : Said) (h : w.ownsRow B 28 4 v (S.length + 1) (saidCells S ++ [.int .i64 (s.1 : Nat), .int .i64 (s.2.1 : Nat), .int .i8 (infOf s.2.2), .int .i64 (numOf s.2.2)])) : w.ownsRow B 28 4 v (S ++ [s]).length (saidCells (S ++ [s])) := by
  rw [saidCells_snoc, List.length_append]
  exact h
theorem cells_new4 (w : World) (x y u v : Value) (t : TypeId) {q : Nat} (hq : w.heap.size = q) : ∀ j z, [x, y, u, v][j]? = some z → (w.alloc (.cells #[x, y, u, v] t)).cell? ((⟨q, 0, none⟩ : Addr).add j) = some z := by
  subst hq
  intro j z hz
  rw [add_off, Nat.zero_add]
  have h2 : (w.alloc (.cells #[x, y, u, v] t)).heap[w.heap.size]? = some (.cells #[x, y, u, v] t) := by
    show (w.heap.push _)[w.heap.size]? = _
    simp
  unfold World.cell?
  simp only [h2]
  match j, hz with
  | 0, hz => exact hz
  | 1, hz => exact hz
  | 2, hz => exact hz
  | 3, hz => exact hz
  | j + 4, hz => simp at hz
/-- What lies behind the first words of a round. -/
structure YBox (wr wx : World) (x y u v : Int) (s1 s2 : Nat) : Prop where
  x2 : wx.cell? ⟨wr.heap.size, 2, none⟩ = some (.int .i8 u)
  x3 : wx.cell? ⟨wr.heap.size, 3, none⟩ = some (.int .i64 v)
  y0 : wx.cell? ⟨wr.heap.size + 1, 0, none⟩ = some (.int .i64 s1)
  y1 : wx.cell? ⟨wr.heap.size + 1, 1, none⟩ = some (.int .i64 s2)
  y2 : wx.cell? ⟨wr.heap.size + 1, 2, none⟩ = some (.int .i8 1)
  y3 : wx.cell? ⟨wr.heap.size + 1, 3, none⟩ = some (.int .i64 0)
  z2 : wx.frozen? ⟨wr.heap.size + 1, 2, none⟩ = false
  z3 : wx.frozen? ⟨wr.heap.size + 1, 3, none⟩ = false
  lt : wr.heap.size + 1 < wx.heap.size
  below : Below wr.heap.size wr wx
theorem ybox (wr : World) (x y u v : Int) (s1 s2 : Nat) : YBox wr ((wr.alloc (.cells #[.int .i64 x, .int .i64 y, .int .i8 u, .int .i64 v] 28)).alloc (.cells #[.int .i64 s1, .int .i64 s2, .int .i8 1, .int .i64 0] 28)) x y u v s1 s2 := by
  have hb : Below wr.heap.size wr ((wr.alloc (.cells #[.int .i64 x, .int .i64 y, .int .i8 u, .int .i64 v] 28)).alloc (.cells #[.int .i64 s1, .int .i64 s2, .int .i8 1, .int .i64 0] 28)) := ((Below.refl _ wr).alloc (Nat.le_refl _) _).alloc (by simp) _
  have h1 : ((wr.alloc (.cells #[.int .i64 x, .int .i64 y, .int .i8 u, .int .i64 v] 28)).alloc (.cells #[.int .i64 s1, .int .i64 s2, .int .i8 1, .int .i64 0] 28)).heap[wr.heap.size]? = some (.cells #[.int .i64 x, .int .i64 y, .int .i8 u, .int .i64 v] 28) := by
    show ((wr.heap.push _).push _)[wr.heap.size]? = _
    rw [Array.getElem?_push, if_neg (by simp)]
    simp
  have h2 : ((wr.alloc (.cells #[.int .i64 x, .int .i64 y, .int .i8 u, .int .i64 v] 28)).alloc (.cells #[.int .i64 s1, .int .i64 s2, .int .i8 1, .int .i64 0] 28)).heap[wr.heap.size + 1]? = some (.cells #[.int .i64 s1, .int .i64 s2, .int .i8 1, .int .i64 0] 28) := by
    show ((wr.heap.push _).push _)[wr.heap.size + 1]? = _
    rw [Array.getElem?_push, if_pos (by simp)]
  refine ⟨?_, ?_, ?_, ?_, ?_, ?_, ?_, ?_, by simp, hb⟩
  · unfold World.cell?; rw [h1]; rfl
  · unfold World.cell?; rw [h1]; rfl
  · unfold World.cell?; rw [h2]; rfl
  · unfold World.cell?; rw [h2]; rfl
  · unfold World.cell?; rw [h2]; rfl
  · unfold World.cell?; rw [h2]; rfl
  · unfold World.frozen?; rw [h2]; simp
  · unfold World.frozen?; rw [h2]; simp
theorem YBox.drew {wr wx : World} {x y u v : Int} {s1 s2 : Nat} (h : YBox wr wx x y u v s1 s2) : YBox wr wx.drew x y u v s1 s2 := ⟨h.x2, h.x3, h.y0, h.y1, h.y2, h.y3, h.z2, h.z3, h.lt, h.below.drew⟩
theorem saidCells_at : ∀ (S : List Said) (t : Nat) (h : t < S.length), (saidCells S)[t * 4]? = some (.int .i64 (S[t].1 : Nat)) ∧ (saidCells S)[t * 4 + 1]? = some (.int .i64 (S[t].2.1 : Nat)) ∧ (saidCells S)[t * 4 + 2]? = some (.int .i8 (infOf S[t].2.2)) ∧ (saidCells S)[t * 4 + 3]? = some (.int .i64 (numOf S[t].2.2))
  | s :: S, 0, _ => ⟨rfl, rfl, rfl, rfl⟩
  | s :: S, t + 1, h => by
    have ih := saidCells_at S t (by simpa using h)
    rw [show (t + 1) * 4 = t * 4 + 1 + 1 + 1 + 1 by omega]
    exact ih
/-- Bounds of the call's own read so. -/
theorem said_own {w : World} {B g cap : Nat} {S : List Said} (h : w.ownsRow B 28 4 (.slice (some ⟨g, 0, none⟩) S.length cap) S.length (saidCells S)) : SaidAt w g 0 S ∧ S.length ≤ cap ∧ cap ≤ 9223372036854775807 := by
  have hc := fun j u hu => h.cells (g := g) rfl j u hu
  simp only [add_off] at hc
  refine ⟨⟨fun t ht => hc _ _ (saidCells_at S t ht).1, fun t ht => hc _ _ (saidCells_at S t ht).2.1, fun t ht => hc _ _ (saidCells_at S t ht).2.2.1, fun t ht => hc _ _ (saidCells_at S t ht).2.2.2⟩, ?_⟩
  rcases h.2 with ⟨h1, _⟩ | ⟨g', cap', cur, h1, h2, h3, h4, h5, h6⟩
  · cases h1
  · cases h1
    unfold maxLen at h5
    exact ⟨h4, by omega⟩
theorem said_form {w : World} {B : Nat} {v : Value} {S : List Said} (h : w.ownsRow B 28 4 v S.length (saidCells S)) (v0 : S = [] → v = .slice none 0 0) : (S = [] ∧ v = .slice none 0 0) ∨ ∃ g cap, v = .slice (some ⟨g, 0, none⟩) S.length cap := by
  cases S with
  | nil => exact .inl ⟨rfl, v0 rfl⟩
  | cons s S =>
    rcases h.2 with ⟨_, h2⟩ | ⟨g, cap, cur, h1, _⟩
    · simp at h2
    · exact .inr ⟨g, cap, h1⟩
theorem tmod_lo (v : Int) : -1000 ≤ v.tmod 1001 := by
  rcases Int.le_total 0 v with h | h
  · rw [Int.tmod_eq_emod_of_nonneg h]; omega
  · have e : v.tmod 1001 = -((-v).tmod 1001) := by rw [Int.neg_tmod]; simp
    rw [e, Int.tmod_eq_emod_of_nonneg (by omega)]; omega
theorem i64_and255 (n : Int) : bits .and .i64 n 255 = n % 256 := by
  have h255 : (BitVec.ofInt 64 255).toNat = 2 ^ 8 - 1 := by decide
  have key : (BitVec.ofInt 64 n &&& BitVec.ofInt 64 255).toNat = (n % ((2 ^ 64 : Nat) : Int)).toNat % 2 ^ 8 := by
    rw [BitVec.toNat_and, BitVec.toNat_ofInt, h255, Nat.and_two_pow_sub_one_eq_mod]
  show IntKind.i64.wrap ((BitVec.ofInt 64 n &&& BitVec.ofInt 64 255).toNat : Nat) = n % 256
  rw [key, IntKind.wrap_i64]
  omega

set_option maxRecDepth 100000 in
set_option maxHeartbeats 4000000 in
theorem built_long (a n : Nat) (ha : a < 256) (hn : n = 1 + a % 24) (bl ol L cl : Nat) (I J X Y : Nat → Int) (hL : 60 < L) (hcl : L ≤ cl) (hcl' : cl ≤ 9223372036854775807) (w : World) (hw : RawAt w bl ol L I J X Y) :
    Calls Try.prog 20 #[.int .u8 a, .slice (some ⟨bl, ol, none⟩) L cl] w fun e w' => BuiltIs w w' n e := by
  have HW := Lib.hid hw
  have en : (1 : Int) + (a : Int) % 24 = (n : Int) := by omega
  have n1 : 1 ≤ n := by omega
  have n2 : n ≤ 24 := by omega
  have n3 : (1 : Int) ≤ (n : Int) := by omega
  have n4 : (n : Int) ≤ 24 := by omega
  have n5 : ¬ n = 0 := by omega
  have n6 : ¬ (n : Int) = 0 := by omega
  have n7 : ((n : Int) == 0) = false := by simpa using n5
  have t1 : (60 : Int) < (L : Int) := by omega
  have t2 : (max 60 0 : Int) = 60 := rfl
  have t3 : 60 < L := hL
  have t4 : (60 : Int) ≤ (cl : Int) := by omega
  clear hw hn hL
  obtain ⟨i0, hi, hz0, hz1, hz2⟩ := info_parts info28
  have HI := Lib.hid hi
  have HZ0 := Lib.hid hz0
  have HZ1 := Lib.hid hz1
  have HZ2 := Lib.hid hz2
  clear hi hz0 hz1 hz2
  go_enter Try.func20, Try.ntmps20
  go_wp2
  go_loopw [6, 22] (fun v ii wr => ∃ (i : Nat) (S : List Said), i ≤ 60 ∧ ii = .int .i64 i ∧ S.length ≤ i ∧ Hid (wr.ownsRow w.heap.size 28 4 v S.length (saidCells S)) ∧ Hid (∀ s ∈ S, SaidOk n 1000 s) ∧ Hid (Below w.heap.size w wr) ∧ Hid (S = [] → v = .slice none 0 0)) (fun _ ii _ => 60 - (intOf ii).toNat)
  case atStart => exact ⟨0, [], Nat.zero_le _, rfl, Nat.le_refl _, Lib.hid (World.ownsRow_nil _ _ _ _), Lib.hid (fun s hs => by cases hs), Lib.hid (Below.refl _ _), Lib.hid (fun _ => rfl)⟩
  case round =>
    obtain ⟨i, S, hi, rfl, hSl, HO, HS, HB, HV⟩ := hrel
    by_cases ilt : i < 60
    · have HA := Lib.hid (HW.out.keep HB.out)
      have c0 := HA.out.c0 i (by omega)
      have c1 := HA.out.c1 i (by omega)
      have c2 := HA.out.c2 i (by omega)
      have c3 := HA.out.c3 i (by omega)
      have f0 := HA.out.f0 i (by omega)
      have f1 := HA.out.f1 i (by omega)
      have f3 := HA.out.f3 i (by omega)
      have i1 : (i : Int) < 60 := by omega
      generalize I i = x at *
      generalize J i = y at *
      generalize X i = u at *
      generalize Y i = v at *
      have e1 := i64_and255 x
      have e2 := i64_and255 y
      obtain ⟨q1, hq1⟩ := Int.eq_ofNat_of_zero_le (show 0 ≤ x % 256 by omega)
      obtain ⟨q2, hq2⟩ := Int.eq_ofNat_of_zero_le (show 0 ≤ y % 256 by omega)
      rw [hq1] at e1
      rw [hq2] at e2
      obtain ⟨s1, hs1⟩ : ∃ s, q1 % n = s := ⟨_, rfl⟩
      obtain ⟨s2, hs2⟩ : ∃ s, q2 % n = s := ⟨_, rfl⟩
      have b1 : s1 < n := by rw [← hs1]; exact Nat.mod_lt _ n1
      have b2 : s2 < n := by rw [← hs2]; exact Nat.mod_lt _ n1
      have g1 : (q1 : Int) % (n : Int) = (s1 : Int) := by omega
      have g2 : (q2 : Int) % (n : Int) = (s2 : Int) := by omega
      have g3 : (q1 : Int).tmod (n : Int) = (s1 : Int) := by rw [Int.tmod_eq_emod_of_nonneg (by omega)]; exact g1
      have g4 : (q2 : Int).tmod (n : Int) = (s2 : Int) := by rw [Int.tmod_eq_emod_of_nonneg (by omega)]; exact g2
      obtain ⟨r, e3⟩ : ∃ r, v.tmod 1001 = r := ⟨_, rfl⟩
      have r1 : -1000 ≤ r ∧ r ≤ 1000 := by
        rw [← e3]
        have := Int.tmod_lt_of_pos v (by decide : (0 : Int) < 1001)
        have := tmod_lo v
        omega
      obtain ⟨r1, r2⟩ := r1
      clear hq1 hq2 hs1 hs2 f0 f1
      obtain ⟨f3a, f3b⟩ := f3
      go_upto_region 6 with fail
      go_cut [9] (fun s9 wx => s9 = .pointer (some ⟨wr.heap.size + 1, 0, none⟩) ∧ Hid (YBox wr wx x y u v s1 s2))
      case first =>
        go_region_held3 (fun w' => w'.cell? ⟨wr.heap.size, 0, none⟩ = some (.int .i64 x) ∧ w'.cell? ⟨wr.heap.size, 1, none⟩ = some (.int .i64 y)) (go_keep) (fail)
        go_wp2_with fail
        go_meet
        exact ⟨rfl, Lib.hid (ybox wr x y u v s1 s2).drew⟩
      case rest =>
      obtain ⟨rfl, HY⟩ := hcut
      clear e1 e2 g1 g2 g3 g4 c0 c1 c2 c3 en
      have m2 := HY.out.x2
      have m3 := HY.out.x3
      have y0 := HY.out.y0
      have y1 := HY.out.y1
      have y2 := HY.out.y2
      have y3 := HY.out.y3
      have z2 := HY.out.z2
      have z3 := HY.out.z3
      have BW := Lib.hid HY.out.below
      have ylt := HY.out.lt
      obtain ⟨Yb, hYb⟩ : ∃ q, wr.heap.size + 1 = q := ⟨_, rfl⟩
      have ylo : wr.heap.size ≤ Yb := by omega
      rw [hYb] at y0 y1 y2 y3 z2 z3 ylt ⊢
      clear HY hYb
      have HS2 : Hid (∀ bd, Bd.within 1000 bd → ∀ s ∈ S ++ [(s1, s2, bd)], SaidOk n 1000 s) := Lib.hid (fun bd hb s hs => by
        rw [List.mem_append] at hs
        rcases hs with hs | hs
        · exact HS.out s hs
        · simp at hs; subst hs; exact ⟨b1, b2, hb⟩)
      by_cases hu : u = 0
      · subst hu
        have BB := Lib.hid ((BW.out.setCell (p := ⟨Yb, 2, none⟩) ylo (.int .i8 0)).setCell (p := ⟨Yb, 3, none⟩) ylo (.int .i64 r))
        have HSZ : Hid (((wc.setCell ⟨Yb, 2, none⟩ (.int .i8 0)).setCell ⟨Yb, 3, none⟩ (.int .i64 r)).heap.size = wc.heap.size) := Lib.hid (by simp [World.setCell])
        cases hne : ((s1 : Int) != (s2 : Int))
        · have HOK := Lib.hid (keepB HO.out BB.out)
          have HBK := Lib.hid (HB.out.trans (BB.out.mono HB.out.size))
          go_wp2
          go_roundw
          case rel => exact ⟨i + 1, S, by omega, by go_num, by omega, HOK, HS, HBK, HV⟩
          case measure => simp [intOf]; omega
        · have HS3 := Lib.hid (HS2.out (some r) ⟨r1, r2⟩)
          go_wp2_with (at_builtin; refine wpList_append_own _ rfl _ _ 45 rfl w.heap.size 28 i0 (.agg #[.int .i64 0, .int .i64 0, .int .i8 0, .int .i64 0]) 4 32 Try.underlying45 HI.out HZ0.out HZ1.out HZ2.out rfl (by decide) u6 S.length _ (by rfl) (keepB HO.out (BB.out.alloc BB.out.size _)) ⟨wc.heap.size, 0, none⟩ 1 1 [.int .i64 s1, .int .i64 s2, .int .i8 0, .int .i64 r] (by rfl) rfl ?hc (by intro z hz; simp at hz; rcases hz with rfl | rfl | rfl | rfl <;> rfl) (by unfold maxLen; omega) (by omega) (Nat.le_trans HB.out.size (BB.out.alloc BB.out.size _).size) ?_; (case hc => exact cells_new4 _ _ _ _ _ _ HSZ.out); intro v' w2 hown hgro hnil; have HO2 := Lib.hid (row_snoc (s1, s2, some r) hown); have HB2 := Lib.hid ((HB.out.trans ((BB.out.alloc BB.out.size _).mono HB.out.size)).grown hgro (Nat.le_trans HB.out.size (BB.out.alloc BB.out.size _).size) (fun q hq => (HO.out.lt q hq).1)); clear hown hgro hnil)
          go_roundw
          case rel => exact ⟨i + 1, S ++ [(s1, s2, some r)], by omega, by go_num, by simp; omega, HO2, HS3, HB2, Lib.hid (fun h => by simp at h)⟩
          case measure => simp [intOf]; omega
      · have hu' : (u == 0) = false := by simpa using hu
        clear hu
        have BB := BW
        have HSZ : Hid (wc.heap.size = wc.heap.size) := Lib.hid rfl
        cases hne : ((s1 : Int) != (s2 : Int))
        · have HOK := Lib.hid (keepB HO.out BB.out)
          have HBK := Lib.hid (HB.out.trans (BB.out.mono HB.out.size))
          go_wp2
          go_roundw
          case rel => exact ⟨i + 1, S, by omega, by go_num, by omega, HOK, HS, HBK, HV⟩
          case measure => simp [intOf]; omega
        · have HS3 := Lib.hid (HS2.out none trivial)
          go_wp2_with (at_builtin; refine wpList_append_own _ rfl _ _ 45 rfl w.heap.size 28 i0 (.agg #[.int .i64 0, .int .i64 0, .int .i8 0, .int .i64 0]) 4 32 Try.underlying45 HI.out HZ0.out HZ1.out HZ2.out rfl (by decide) u6 S.length _ (by rfl) (keepB HO.out (BB.out.alloc BB.out.size _)) ⟨wc.heap.size, 0, none⟩ 1 1 [.int .i64 s1, .int .i64 s2, .int .i8 1, .int .i64 0] (by rfl) rfl ?hc (by intro z hz; simp at hz; rcases hz with rfl | rfl | rfl | rfl <;> rfl) (by unfold maxLen; omega) (by omega) (Nat.le_trans HB.out.size (BB.out.alloc BB.out.size _).size) ?_; (case hc => exact cells_new4 _ _ _ _ _ _ HSZ.out); intro v' w2 hown hgro hnil; have HO2 := Lib.hid (row_snoc (s1, s2, none) hown); have HB2 := Lib.hid ((HB.out.trans ((BB.out.alloc BB.out.size _).mono HB.out.size)).grown hgro (Nat.le_trans HB.out.size (BB.out.alloc BB.out.size _).size) (fun q hq => (HO.out.lt q hq).1)); clear hown hgro hnil)
          go_roundw
          case rel => exact ⟨i + 1, S ++ [(s1, s2, none)], by omega, by go_num, by simp; omega, HO2, HS3, HB2, Lib.hid (fun h => by simp at h)⟩
          case measure => simp [intOf]; omega
    · rcases said_form HO.out HV.out with ⟨hS, hv⟩ | ⟨g, cap, hv⟩
      · subst hv
        have C := Lib.hid (built_nil n (by omega) n2 wr)
        go_wp2_with (go_at_call 22; (with_reducible refine (C.out).mono ?_); rintro e w2 ⟨g, o, k, b, p, c, rfl, hk, hk', HN, HB2⟩)
        go_returns
        exact ⟨fresh, within_fresh n (by decide), g, o, k, b, p, c, rfl, hk, hk', Lib.hid (HN.out.lower HB.out.size), Lib.hid (HB.out.trans (HB2.out.mono HB.out.size))⟩
      · subst hv
        have so := said_own HO.out
        have C := Lib.hid (built_net n (by omega) n2 g 0 cap S so.2.1 so.2.2 (fun s hs => ⟨(HS.out s hs).1, (HS.out s hs).2.1, Bd.within_mono (by decide) (HS.out s hs).2.2⟩) wr so.1)
        have HM := Lib.hid (within_puts S fresh (within_fresh n (by decide : (0 : Int) ≤ 1000)) HS.out)
        clear so
        go_wp2_with (go_at_call 22; (with_reducible refine (C.out).mono ?_); rintro e w2 ⟨g', o, k, b, p, c, rfl, hk, hk', HN, HB2⟩)
        go_returns
        exact ⟨puts fresh S, HM.out, g', o, k, b, p, c, rfl, hk, hk', Lib.hid (HN.out.lower HB.out.size), Lib.hid (HB.out.trans (HB2.out.mono HB.out.size))⟩

set_option maxRecDepth 100000 in
set_option maxHeartbeats 4000000 in
theorem built_short (a n : Nat) (ha : a < 256) (hn : n = 1 + a % 24) (bl ol L cl : Nat) (I J X Y : Nat → Int) (hL : L ≤ 60) (hcl : L ≤ cl) (hcl' : cl ≤ 9223372036854775807) (w : World) (hw : RawAt w bl ol L I J X Y) :
    Calls Try.prog 20 #[.int .u8 a, .slice (some ⟨bl, ol, none⟩) L cl] w fun e w' => BuiltIs w w' n e := by
  have HW := Lib.hid hw
  have en : (1 : Int) + (a : Int) % 24 = (n : Int) := by omega
  have n1 : 1 ≤ n := by omega
  have n2 : n ≤ 24 := by omega
  have n3 : (1 : Int) ≤ (n : Int) := by omega
  have n4 : (n : Int) ≤ 24 := by omega
  have n5 : ¬ n = 0 := by omega
  have n6 : ¬ (n : Int) = 0 := by omega
  have n7 : ((n : Int) == 0) = false := by simpa using n5
  have t1 : ¬ ((60 : Int) < (L : Int)) := by omega
  have t5 : (L : Int) ≤ 60 := by omega
  have t2 : (max (L : Int) 0 : Int) = (L : Int) := by omega
  have t4 : (L : Int) ≤ (cl : Int) := by omega
  clear hw hn hL
  obtain ⟨i0, hi, hz0, hz1, hz2⟩ := info_parts info28
  have HI := Lib.hid hi
  have HZ0 := Lib.hid hz0
  have HZ1 := Lib.hid hz1
  have HZ2 := Lib.hid hz2
  clear hi hz0 hz1 hz2
  go_enter Try.func20, Try.ntmps20
  go_wp2
  go_loopw [6, 22] (fun v ii wr => ∃ (i : Nat) (S : List Said), i ≤ L ∧ ii = .int .i64 i ∧ S.length ≤ i ∧ Hid (wr.ownsRow w.heap.size 28 4 v S.length (saidCells S)) ∧ Hid (∀ s ∈ S, SaidOk n 1000 s) ∧ Hid (Below w.heap.size w wr) ∧ Hid (S = [] → v = .slice none 0 0)) (fun _ ii _ => L - (intOf ii).toNat)
  case atStart => exact ⟨0, [], Nat.zero_le _, rfl, Nat.le_refl _, Lib.hid (World.ownsRow_nil _ _ _ _), Lib.hid (fun s hs => by cases hs), Lib.hid (Below.refl _ _), Lib.hid (fun _ => rfl)⟩
  case round =>
    obtain ⟨i, S, hi, rfl, hSl, HO, HS, HB, HV⟩ := hrel
    by_cases ilt : i < L
    · have HA := Lib.hid (HW.out.keep HB.out)
      have c0 := HA.out.c0 i (by omega)
      have c1 := HA.out.c1 i (by omega)
      have c2 := HA.out.c2 i (by omega)
      have c3 := HA.out.c3 i (by omega)
      have f0 := HA.out.f0 i (by omega)
      have f1 := HA.out.f1 i (by omega)
      have f3 := HA.out.f3 i (by omega)
      have i1 : (i : Int) < (L : Int) := by omega
      generalize I i = x at *
      generalize J i = y at *
      generalize X i = u at *
      generalize Y i = v at *
      have e1 := i64_and255 x
      have e2 := i64_and255 y
      obtain ⟨q1, hq1⟩ := Int.eq_ofNat_of_zero_le (show 0 ≤ x % 256 by omega)
      obtain ⟨q2, hq2⟩ := Int.eq_ofNat_of_zero_le (show 0 ≤ y % 256 by omega)
      rw [hq1] at e1
      rw [hq2] at e2
      obtain ⟨s1, hs1⟩ : ∃ s, q1 % n = s := ⟨_, rfl⟩
      obtain ⟨s2, hs2⟩ : ∃ s, q2 % n = s := ⟨_, rfl⟩
      have b1 : s1 < n := by rw [← hs1]; exact Nat.mod_lt _ n1
      have b2 : s2 < n := by rw [← hs2]; exact Nat.mod_lt _ n1
      have g1 : (q1 : Int) % (n : Int) = (s1 : Int) := by omega
      have g2 : (q2 : Int) % (n : Int) = (s2 : Int) := by omega
      have g3 : (q1 : Int).tmod (n : Int) = (s1 : Int) := by rw [Int.tmod_eq_emod_of_nonneg (by omega)]; exact g1
      have g4 : (q2 : Int).tmod (n : Int) = (s2 : Int) := by rw [Int.tmod_eq_emod_of_nonneg (by omega)]; exact g2
      obtain ⟨r, e3⟩ : ∃ r, v.tmod 1001 = r := ⟨_, rfl⟩
      have r1 : -1000 ≤ r ∧ r ≤ 1000 := by
        rw [← e3]
        have := Int.tmod_lt_of_pos v (by decide : (0 : Int) < 1001)
        have := tmod_lo v
        omega
      obtain ⟨r1, r2⟩ := r1
      clear hq1 hq2 hs1 hs2 f0 f1
      obtain ⟨f3a, f3b⟩ := f3
      go_upto_region 6 with fail
      go_cut [9] (fun s9 wx => s9 = .pointer (some ⟨wr.heap.size + 1, 0, none⟩) ∧ Hid (YBox wr wx x y u v s1 s2))
      case first =>
        go_region_held3 (fun w' => w'.cell? ⟨wr.heap.size, 0, none⟩ = some (.int .i64 x) ∧ w'.cell? ⟨wr.heap.size, 1, none⟩ = some (.int .i64 y)) (go_keep) (fail)
        go_wp2_with fail
        go_meet
        exact ⟨rfl, Lib.hid (ybox wr x y u v s1 s2).drew⟩
      case rest =>
      obtain ⟨rfl, HY⟩ := hcut
      clear e1 e2 g1 g2 g3 g4 c0 c1 c2 c3 en
      have m2 := HY.out.x2
      have m3 := HY.out.x3
      have y0 := HY.out.y0
      have y1 := HY.out.y1
      have y2 := HY.out.y2
      have y3 := HY.out.y3
      have z2 := HY.out.z2
      have z3 := HY.out.z3
      have BW := Lib.hid HY.out.below
      have ylt := HY.out.lt
      obtain ⟨Yb, hYb⟩ : ∃ q, wr.heap.size + 1 = q := ⟨_, rfl⟩
      have ylo : wr.heap.size ≤ Yb := by omega
      rw [hYb] at y0 y1 y2 y3 z2 z3 ylt ⊢
      clear HY hYb
      have HS2 : Hid (∀ bd, Bd.within 1000 bd → ∀ s ∈ S ++ [(s1, s2, bd)], SaidOk n 1000 s) := Lib.hid (fun bd hb s hs => by
        rw [List.mem_append] at hs
        rcases hs with hs | hs
        · exact HS.out s hs
        · simp at hs; subst hs; exact ⟨b1, b2, hb⟩)
      by_cases hu : u = 0
      · subst hu
        have BB := Lib.hid ((BW.out.setCell (p := ⟨Yb, 2, none⟩) ylo (.int .i8 0)).setCell (p := ⟨Yb, 3, none⟩) ylo (.int .i64 r))
        have HSZ : Hid (((wc.setCell ⟨Yb, 2, none⟩ (.int .i8 0)).setCell ⟨Yb, 3, none⟩ (.int .i64 r)).heap.size = wc.heap.size) := Lib.hid (by simp [World.setCell])
        cases hne : ((s1 : Int) != (s2 : Int))
        · have HOK := Lib.hid (keepB HO.out BB.out)
          have HBK := Lib.hid (HB.out.trans (BB.out.mono HB.out.size))
          go_wp2
          go_roundw
          case rel => exact ⟨i + 1, S, by omega, by go_num, by omega, HOK, HS, HBK, HV⟩
          case measure => simp [intOf]; omega
        · have HS3 := Lib.hid (HS2.out (some r) ⟨r1, r2⟩)
          go_wp2_with (at_builtin; refine wpList_append_own _ rfl _ _ 45 rfl w.heap.size 28 i0 (.agg #[.int .i64 0, .int .i64 0, .int .i8 0, .int .i64 0]) 4 32 Try.underlying45 HI.out HZ0.out HZ1.out HZ2.out rfl (by decide) u6 S.length _ (by rfl) (keepB HO.out (BB.out.alloc BB.out.size _)) ⟨wc.heap.size, 0, none⟩ 1 1 [.int .i64 s1, .int .i64 s2, .int .i8 0, .int .i64 r] (by rfl) rfl ?hc (by intro z hz; simp at hz; rcases hz with rfl | rfl | rfl | rfl <;> rfl) (by unfold maxLen; omega) (by omega) (Nat.le_trans HB.out.size (BB.out.alloc BB.out.size _).size) ?_; (case hc => exact cells_new4 _ _ _ _ _ _ HSZ.out); intro v' w2 hown hgro hnil; have HO2 := Lib.hid (row_snoc (s1, s2, some r) hown); have HB2 := Lib.hid ((HB.out.trans ((BB.out.alloc BB.out.size _).mono HB.out.size)).grown hgro (Nat.le_trans HB.out.size (BB.out.alloc BB.out.size _).size) (fun q hq => (HO.out.lt q hq).1)); clear hown hgro hnil)
          go_roundw
          case rel => exact ⟨i + 1, S ++ [(s1, s2, some r)], by omega, by go_num, by simp; omega, HO2, HS3, HB2, Lib.hid (fun h => by simp at h)⟩
          case measure => simp [intOf]; omega
      · have hu' : (u == 0) = false := by simpa using hu
        clear hu
        have BB := BW
        have HSZ : Hid (wc.heap.size = wc.heap.size) := Lib.hid rfl
        cases hne : ((s1 : Int) != (s2 : Int))
        · have HOK := Lib.hid (keepB HO.out BB.out)
          have HBK := Lib.hid (HB.out.trans (BB.out.mono HB.out.size))
          go_wp2
          go_roundw
          case rel => exact ⟨i + 1, S, by omega, by go_num, by omega, HOK, HS, HBK, HV⟩
          case measure => simp [intOf]; omega
        · have HS3 := Lib.hid (HS2.out none trivial)
          go_wp2_with (at_builtin; refine wpList_append_own _ rfl _ _ 45 rfl w.heap.size 28 i0 (.agg #[.int .i64 0, .int .i64 0, .int .i8 0, .int .i64 0]) 4 32 Try.underlying45 HI.out HZ0.out HZ1.out HZ2.out rfl (by decide) u6 S.length _ (by rfl) (keepB HO.out (BB.out.alloc BB.out.size _)) ⟨wc.heap.size, 0, none⟩ 1 1 [.int .i64 s1, .int .i64 s2, .int .i8 1, .int .i64 0] (by rfl) rfl ?hc (by intro z hz; simp at hz; rcases hz with rfl | rfl | rfl | rfl <;> rfl) (by unfold maxLen; omega) (by omega) (Nat.le_trans HB.out.size (BB.out.alloc BB.out.size _).size) ?_; (case hc => exact cells_new4 _ _ _ _ _ _ HSZ.out); intro v' w2 hown hgro hnil; have HO2 := Lib.hid (row_snoc (s1, s2, none) hown); have HB2 := Lib.hid ((HB.out.trans ((BB.out.alloc BB.out.size _).mono HB.out.size)).grown hgro (Nat.le_trans HB.out.size (BB.out.alloc BB.out.size _).size) (fun q hq => (HO.out.lt q hq).1)); clear hown hgro hnil)
          go_roundw
          case rel => exact ⟨i + 1, S ++ [(s1, s2, none)], by omega, by go_num, by simp; omega, HO2, HS3, HB2, Lib.hid (fun h => by simp at h)⟩
          case measure => simp [intOf]; omega
    · rcases said_form HO.out HV.out with ⟨hS, hv⟩ | ⟨g, cap, hv⟩
      · subst hv
        have C := Lib.hid (built_nil n (by omega) n2 wr)
        go_wp2_with (go_at_call 22; (with_reducible refine (C.out).mono ?_); rintro e w2 ⟨g, o, k, b, p, c, rfl, hk, hk', HN, HB2⟩)
        go_returns
        exact ⟨fresh, within_fresh n (by decide), g, o, k, b, p, c, rfl, hk, hk', Lib.hid (HN.out.lower HB.out.size), Lib.hid (HB.out.trans (HB2.out.mono HB.out.size))⟩
      · subst hv
        have so := said_own HO.out
        have C := Lib.hid (built_net n (by omega) n2 g 0 cap S so.2.1 so.2.2 (fun s hs => ⟨(HS.out s hs).1, (HS.out s hs).2.1, Bd.within_mono (by decide) (HS.out s hs).2.2⟩) wr so.1)
        have HM := Lib.hid (within_puts S fresh (within_fresh n (by decide : (0 : Int) ≤ 1000)) HS.out)
        clear so
        go_wp2_with (go_at_call 22; (with_reducible refine (C.out).mono ?_); rintro e w2 ⟨g', o, k, b, p, c, rfl, hk, hk', HN, HB2⟩)
        go_returns
        exact ⟨puts fresh S, HM.out, g', o, k, b, p, c, rfl, hk, hk', Lib.hid (HN.out.lower HB.out.size), Lib.hid (HB.out.trans (HB2.out.mono HB.out.size))⟩

set_option maxRecDepth 100000 in
set_option maxHeartbeats 4000000 in
theorem built_none (a n : Nat) (ha : a < 256) (hn : n = 1 + a % 24) (w : World) :
    Calls Try.prog 20 #[.int .u8 a, .slice none 0 0] w fun e w' => BuiltIs w w' n e := by
  have en : (1 : Int) + (a : Int) % 24 = (n : Int) := by omega
  have C := Lib.hid (built_nil n (by omega) (by omega) w)
  clear hn
  go_enter Try.func20, Try.ntmps20
  go_wp2
  go_loopw [6, 22] (fun v ii wr => v = .slice none 0 0 ∧ ii = .int .i64 0 ∧ wr = w) (fun _ ii _ => 0)
  case atStart => exact ⟨rfl, rfl, rfl⟩
  case round =>
    obtain ⟨rfl, rfl, rfl⟩ := hrel
    go_wp2_with (go_at_call 22; (with_reducible refine (C.out).mono ?_); rintro e w2 ⟨g, o, k, b, p, c, rfl, hk, hk', HN, HB2⟩)
    go_returns
    exact ⟨fresh, within_fresh n (by decide), g, o, k, b, p, c, rfl, hk, hk', HN, HB2⟩
set_option maxRecDepth 100000 in
set_option maxHeartbeats 4000000 in
theorem built_empty (a n : Nat) (ha : a < 256) (hn : n = 1 + a % 24) (ad : Addr) (cl : Nat) (hcl : cl ≤ 9223372036854775807) (w : World) :
    Calls Try.prog 20 #[.int .u8 a, .slice (some ad) 0 cl] w fun e w' => BuiltIs w w' n e := by
  have en : (1 : Int) + (a : Int) % 24 = (n : Int) := by omega
  have C := Lib.hid (built_nil n (by omega) (by omega) w)
  have t1 : (0 : Int) ≤ (cl : Int) := by omega
  clear hn
  go_enter Try.func20, Try.ntmps20
  go_wp2
  go_loopw [6, 22] (fun v ii wr => v = .slice none 0 0 ∧ ii = .int .i64 0 ∧ wr = w) (fun _ ii _ => 0)
  case atStart => exact ⟨rfl, rfl, rfl⟩
  case round =>
    obtain ⟨rfl, rfl, rfl⟩ := hrel
    go_wp2_with (go_at_call 22; (with_reducible refine (C.out).mono ?_); rintro e w2 ⟨g, o, k, b, p, c, rfl, hk, hk', HN, HB2⟩)
    go_returns
    exact ⟨fresh, within_fresh n (by decide), g, o, k, b, p, c, rfl, hk, hk', HN, HB2⟩
/-- The law's own input of bounds: nil, or raw bounds in memory. -/
def RawIn (w : World) (v : Value) : Prop := v = .slice none 0 0 ∨ (∃ ad cl, v = .slice (some ad) 0 cl ∧ cl ≤ 9223372036854775807) ∨ ∃ bl ol L cl I J X Y, v = .slice (some ⟨bl, ol, none⟩) L cl ∧ L ≤ cl ∧ cl ≤ 9223372036854775807 ∧ RawAt w bl ol L I J X Y
theorem built_any (a n : Nat) (ha : a < 256) (hn : n = 1 + a % 24) (v : Value) (w : World) (hv : RawIn w v) :
    Calls Try.prog 20 #[.int .u8 a, v] w fun e w' => BuiltIs w w' n e := by
  rcases hv with rfl | ⟨ad, cl, rfl, h⟩ | ⟨bl, ol, L, cl, I, J, X, Y, rfl, h1, h2, h3⟩
  · exact built_none a n ha hn w
  · exact built_empty a n ha hn ad cl h w
  · by_cases h : 60 < L
    · exact built_long a n ha hn bl ol L cl I J X Y h h1 h2 w h3
    · exact built_short a n ha hn bl ol L cl I J X Y (by omega) h1 h2 w h3
end Go.Proofs.Ytnhbinghinlhgaa
