/- M12 in one. -/
import Derived.Test.YtllhcpkpbipjlaaDoorKaj
namespace Go.Proofs.YtllhcpkpbipjlaaDoor
set_option linter.unusedVariables false
set_option linter.unusedSimpArgs false
open Go.ChangeShapes Go.WideShapes Go.ChangeAt Go.RowKit

/-- A command in memory, its cells by name. -/
structure CmV (w : World) (cm : Lx.Cm) (wb : ByteArray) (an : Option Addr) (nl k1 : Nat) (am : Option Addr) (ml k2 : Nat) (y3 y4 : Int) (y5 y6 : Bool) (z : Hv) : Prop where
  word : wb = ⟨cm.word.toArray⟩
  nn : StAt w an nl k1 (cm.names.map (fun x => ⟨x.toArray⟩))
  mm : NAt w am ml k2 cm.nums
  rg : cm.rg = ⟨y3, y4, y5, y6⟩
  ex : ExAt w 41 (hV z) (tour cm.ex)
theorem cmd_flat (w : World) (ao : Option Addr) (n c : Nat) (l : List Lx.Tk) (hA : TkAt w ao n c l) (hB : Lx.TkB l) (hT : Tabn w) (hW : Tabw w) :
    Calls Tryd.prog 15 #[.slice ao n c] w fun e w' => ∃ (wb : ByteArray) (an : Option Addr) (nl k1 : Nat) (am : Option Addr) (ml k2 : Nat) (y3 y4 : Int) (y5 y6 : Bool) (z : Hv), e = .returned (.tuple #[.agg #[.string wb, .slice an nl k1, .slice am ml k2, .int .i64 y3, .int .i64 y4, .bool y5, .bool y6, .int .u8 z.p.op, .string z.p.nm, .slice z.an z.nn z.nc, .slice z.aa z.p.k z.ac], .int .i64 (Lx.cmE l).2.1, .int .i64 (Lx.cmE l).2.2]) ∧ Hid (Below w.heap.size w w') ∧ Hid (CmV (only (frB w.heap.size) w') (Lx.cmE l).1 wb an nl k1 am ml k2 y3 y4 y5 y6 z) :=
  (cmd_any w ao n c l hA hB hT hW).mono (by
    rintro e w' ⟨vn, vm, z, rfl, hb, hc⟩
    obtain ⟨⟨an, k1, rfl, s1⟩, ⟨am, k2, rfl, s2⟩, hx⟩ := hc.out
    exact ⟨⟨(Lx.cmE l).1.word.toArray⟩, an, _, k1, am, _, k2, _, _, _, _, z, rfl, hb, Lib.hid ⟨rfl, s1, s2, rfl, hx⟩⟩)
theorem own_empty {w : World} {B g : Nat} (hB : B ≤ g) (h : w.heap[g]? = some (.cells #[] 47 (0, 0))) (hb : B ≤ w.heap.size) : w.ownsRow B 47 3 (.slice (some ⟨g, 0, none⟩) 0 0) 0 (tkCells []) :=
  ⟨rfl, .inr ⟨g, 0, #[], rfl, hB, h, Nat.le_refl _, Nat.zero_le _, rfl, rfl⟩⟩
theorem TkAt.take {w : World} {ao : Option Addr} {n c : Nat} {l : List Lx.Tk} (h : TkAt w ao n c l) {m : Nat} (hm : m ≤ n) : TkAt w ao m c (l.take m) :=
  ⟨by rw [List.length_take, h.len]; omega, by have := h.le; omega, h.top, fun e => by have := h.bare e; omega, fun h0 => by
    obtain ⟨b, p, e, hc⟩ := h.here (by omega)
    refine ⟨b, p, e, fun i hi => ?_⟩
    have hi2 : i < l.length := by rw [List.length_take] at hi; omega
    have := hc i hi2
    rw [List.getElem_take]
    exact this⟩
theorem tkb_take {l : List Lx.Tk} (h : Lx.TkB l) (m : Nat) : Lx.TkB (l.take m) := fun t ht => h t (List.mem_of_mem_take ht)
theorem place_e (l lm : List Lx.Tk) : ((Lx.exprE l).2.1 = -1 ∧ (Lx.exprE l).2.2 = 0) ∨ (∃ m : Nat, (Lx.exprE l).2.1 = (m : Int) ∧ m ≤ l.length ∧ (Lx.exprE l).2.2 ≠ 0 ∧ ((Lx.exprE (l.take m ++ lm)).2.2 ≠ 0 → (m : Int) ≤ (Lx.exprE (l.take m ++ lm)).2.1)) := by
  rcases Lx.expr_code l with a | ⟨a, b, e⟩
  · exact .inl a
  · have hz : (Lx.exprE l).2.2 ≠ 0 := by rcases e with e | e <;> rw [e] <;> decide
    exact .inr ⟨_, a, b, hz, (Lx.expr_place l lm hz _ a).2⟩
theorem place_c (l lm : List Lx.Tk) : ((Lx.cmE l).2.1 = -1 ∧ (Lx.cmE l).2.2 = 0) ∨ (∃ m : Nat, (Lx.cmE l).2.1 = (m : Int) ∧ m ≤ l.length ∧ (Lx.cmE l).2.2 ≠ 0 ∧ (0 < m → (Lx.cmE (l.take m ++ lm)).2.2 ≠ 0 → (m : Int) ≤ (Lx.cmE (l.take m ++ lm)).2.1)) := by
  rcases Lx.cm_code l with a | ⟨a, b, e⟩
  · exact .inl a
  · have hz : (Lx.cmE l).2.2 ≠ 0 := by rcases e with e | e <;> rw [e] <;> decide
    refine .inr ⟨(Lx.cmE l).2.1.toNat, by omega, by omega, hz, fun h0 => (Lx.cm_place l lm hz _ (by omega) h0).2⟩
set_option maxRecDepth 20000 in
set_option maxHeartbeats 8000000 in
theorem parsePlace_walk (ao : Option Addr) (n c : Nat) (l : List Lx.Tk) (bo : Option Addr) (n2 c2 : Nat) (lm : List Lx.Tk) (w : World) (hT : Tabn w) (hW : Tabw w) (hA : TkAt w ao n c l) (hB : Lx.TkB l) (hA2 : TkAt w bo n2 c2 lm) (hB2 : Lx.TkB lm) :
    Calls Tryd.prog 7 #[.slice ao n c, .slice bo n2 c2] w fun e w' => e = .returned (.bool true) ∧ Below w.heap.size w w' := by
  have HAW := Lib.hid (fun W (k : Below w.heap.size w W) => awake_any W (hT.keep k) (hW.keep k))
  have HEX := Lib.hid (fun W ao n c l (k : Below w.heap.size w W) (h1 : TkAt W ao n c l) (h2 : Lx.TkB l) => expr_any W ao n c l h1 h2 (hT.keep k) (hW.keep k))
  have HCX := Lib.hid (fun W ao n c l (k : Below w.heap.size w W) (h1 : TkAt W ao n c l) (h2 : Lx.TkB l) => cmd_flat W ao n c l h1 h2 (hT.keep k) (hW.keep k))
  have HA := Lib.hid hA
  have HTB := Lib.hid hB
  have HA2 := Lib.hid hA2
  have HTB2 := Lib.hid hB2
  have n1 : (n : Int) ≤ 9223372036854775807 := by have := hA.le; have := hA.top; omega
  have n0 : (0 : Int) ≤ (n : Int) := by omega
  have m1 : (n2 : Int) ≤ 9223372036854775807 := by have := hA2.le; have := hA2.top; omega
  have m0 : (0 : Int) ≤ (n2 : Int) := by omega
  clear hT hW hA hB hA2 hB2
  by_cases hn : n ≤ 200
  · have hn1 : ¬ (200 : Int) < (n : Int) := by omega
    have hn2 : decide ((200 : Int) < (n : Int)) = false := by simpa using hn1
    by_cases hm : n2 ≤ 10
    · have hm1 : ¬ (10 : Int) < (n2 : Int) := by omega
      have hm2 : decide ((10 : Int) < (n2 : Int)) = false := by simpa using hm1
      have HPE := Lib.hid (place_e l lm)
      have HPC := Lib.hid (place_c l lm)
      have HX := Lib.hid (HEX.out w ao n c l (Below.refl _ _) HA.out HTB.out)
      have HC := Lib.hid (fun W (k : Below w.heap.size w W) => HCX.out W ao n c l k (HA.out.keep k) HTB.out)
      obtain ⟨x1, hx1⟩ : ∃ x, (Lx.exprE l).2.1 = x := ⟨_, rfl⟩
      obtain ⟨x2, hx2⟩ : ∃ x, (Lx.exprE l).2.2 = x := ⟨_, rfl⟩
      obtain ⟨y1, hy1⟩ : ∃ x, (Lx.cmE l).2.1 = x := ⟨_, rfl⟩
      obtain ⟨y2, hy2⟩ : ∃ x, (Lx.cmE l).2.2 = x := ⟨_, rfl⟩
      obtain ⟨cm, hcm⟩ : ∃ x, (Lx.cmE l).1 = x := ⟨_, rfl⟩
      rw [hx1, hx2] at HX HPE
      rw [hy1, hy2] at HC HPC
      rw [hcm] at HC
      clear hx1 hx2 hy1 hy2 hcm
      go_enter Tryd.func7, Tryd.ntmps7
      go_wp2_with fail
      (with_reducible refine HX.out.mono ?_)
      rintro e w1 ⟨z, rfl, HB1, _⟩
      obtain ⟨w2, hw2⟩ : ∃ y, w1.alloc (.cells #[.int .u8 z.p.op, .string z.p.nm, .slice z.an z.nn z.nc, .slice z.aa z.p.k z.ac] 31) = y := ⟨_, rfl⟩
      have HB2 := Lib.hid (HB1.out.trans (show Below w.heap.size w1 w2 by rw [← hw2]; exact ((Below.refl _ w1).alloc (Nat.le_refl _) _).mono HB1.out.size))
      have HC2 := Lib.hid (HC.out w2 HB2.out)
      have HWX := Lib.hid hw2
      clear HX HB1 HC hw2
      go_upto_region 4 with fail
      rw [HWX.out]
      clear HWX
      go_wp2_with fail
      (with_reducible refine HC2.out.mono ?_)
      rintro e w3 ⟨wb, an, nl, k1, am, ml, k2, y3, y4, y5, y6, z2, rfl, HB3, _⟩
      have HB3 := Lib.hid (HB2.out.trans (HB3.out.mono HB2.out.size))
      obtain ⟨w4, hw4⟩ : ∃ y, w3.alloc (.cells #[.string wb, .slice an nl k1, .slice am ml k2, .int .i64 y3, .int .i64 y4, .bool y5, .bool y6, .int .u8 z2.p.op, .string z2.p.nm, .slice z2.an z2.nn z2.nc, .slice z2.aa z2.p.k z2.ac] 39) = y := ⟨_, rfl⟩
      have HB4 := Lib.hid (HB3.out.trans ((show Below w3.heap.size w3 w4 by rw [← hw4]; exact (Below.refl _ w3).alloc (Nat.le_refl _) _).mono HB3.out.size))
      have HWX := Lib.hid hw4
      clear HC2 hw4
      go_upto_region 5 with fail
      rw [HWX.out]
      clear HWX HB3 HB2
      rcases HPE.out with ⟨rfl, rfl⟩ | ⟨m, rfl, hml1, hz1, hp1⟩
      · clear HPE
        rcases HPC.out with ⟨rfl, rfl⟩ | ⟨k, rfl, hml2, hz2, hp2⟩
        · go_upto_region 11 with fail
          have HLAST := HB4
          have HXA := Lib.hid (HAW.out w4 HLAST.out)
          go_wp2_with fail
          (with_reducible refine HXA.out.mono ?_)
          rintro e w9 ⟨rfl, q⟩
          go_wp2
          go_returns
          exact ⟨rfl, HLAST.out.trans (q.mono HLAST.out.size)⟩
        · by_cases h0 : k = 0
          · subst h0
            have hml2 : 0 ≤ n := by rw [← HA.out.len]; exact hml2
            have e21 : (y2 == 0) = false := by simpa using hz2
            have e22 : (y2 != 0) = true := by simpa using hz2
            have e23 : (((0 : Nat) : Int) == -1) = false := by rw [beq_eq_false_iff_ne]; omega
            have e24 : ((0 : Nat) : Int) ≤ n := by omega
            have e25 : ((0 : Nat) : Int) ≤ 0 := by omega
            have e26 : ((0 : Nat) : Int) ≤ c := by have := HA.out.le; omega
            have HNL2 : Hid ([] ++ l.take 0 ++ lm = l.take 0 ++ lm) := Lib.hid (by simp)
            obtain ⟨r1, hq1⟩ : ∃ y, (Lx.cmE (l.take 0 ++ lm)).2.1 = y := ⟨_, rfl⟩
            obtain ⟨r2, hq2⟩ : ∃ y, (Lx.cmE (l.take 0 ++ lm)).2.2 = y := ⟨_, rfl⟩
            rw [hq1, hq2] at hp2
            have HPP2 := Lib.hid hp2
            have HQ21 := Lib.hid hq1
            have HQ22 := Lib.hid hq2
            clear hz2 hp2 hq1 hq2
            clear HPP2
            go_upto_region 11 with fail
            have HLAST := HB4
            have HXA := Lib.hid (HAW.out w4 HLAST.out)
            go_wp2_with fail
            (with_reducible refine HXA.out.mono ?_)
            rintro e w9 ⟨rfl, q⟩
            go_wp2
            go_returns
            exact ⟨rfl, HLAST.out.trans (q.mono HLAST.out.size)⟩
          · have hml2 : k ≤ n := by rw [← HA.out.len]; exact hml2
            have e21 : (y2 == 0) = false := by simpa using hz2
            have e22 : (y2 != 0) = true := by simpa using hz2
            have e23 : ((k : Int) == -1) = false := by rw [beq_eq_false_iff_ne]; omega
            have e24 : (k : Int) ≤ n := by omega
            have e25 : (0 : Int) ≤ (k : Int) := by omega
            have e26 : (k : Int) ≤ c := by have := HA.out.le; omega
            have HNL2 : Hid ([] ++ l.take k ++ lm = l.take k ++ lm) := Lib.hid (by simp)
            obtain ⟨r1, hq1⟩ : ∃ y, (Lx.cmE (l.take k ++ lm)).2.1 = y := ⟨_, rfl⟩
            obtain ⟨r2, hq2⟩ : ∃ y, (Lx.cmE (l.take k ++ lm)).2.2 = y := ⟨_, rfl⟩
            rw [hq1, hq2] at hp2
            have HPP2 := Lib.hid hp2
            have HQ21 := Lib.hid hq1
            have HQ22 := Lib.hid hq2
            clear hz2 hp2 hq1 hq2
            have k0 : (0 : Int) < (k : Int) := by omega
            have HPP2 := Lib.hid (HPP2.out (by omega))
            clear h0
            go_upto_region 11 with fail
            go_upto_region 12 with fail
            have HEA := Lib.hid (show Below w.heap.size w (w4.alloc (.cells #[] 47)) from HB4.out.alloc HB4.out.size _)
            have HOE := Lib.hid (own_empty (w := w4.alloc (.cells #[] 47)) HB4.out.size (al_new w4 _) HEA.out.size)
            go_upto_region 13 with (first
              | (at_builtin; refine appQ rfl (.tmp 90) (.tmp 93) rfl w.heap.size _ _ 0 [] rfl HOE.out ao k c (l.take k) rfl ((HA.out.keep HEA.out).take (by omega)) (by omega) HEA.out.size ?_; intro v' w5 own gr; have HO5 := Lib.hid own; have HB5 := Lib.hid (below_grown HEA.out gr (fun q e => (HOE.out.lt q e).1) HEA.out.size); clear own gr)
              | (at_builtin; refine appQ rfl (.tmp 94) (.tmp 95) rfl w.heap.size _ v' (0 + k) ([] ++ l.take k) rfl HO5.out bo n2 c2 lm rfl (HA2.out.keep HB5.out) (by omega) HB5.out.size ?_; intro v3 w6 own gr; have HB6 := Lib.hid (below_grown HB5.out gr (fun q e => (HO5.out.lt q e).1) HB5.out.size); obtain ⟨o3, c3, rfl, ht⟩ := own_tk2 own (show ([] ++ l.take k ++ lm).length = 0 + k + n2 by simp only [List.nil_append, List.length_append, List.length_take, HA.out.len, HA2.out.len]; omega); have HXX := Lib.hid (HCX.out w6 o3 _ c3 _ HB6.out ht (tkb_app (tkb_app tkb_nil (tkb_take HTB.out k)) HTB2.out)); rw [HNL2.out, HQ21.out, HQ22.out, show 0 + k + n2 = k + n2 by omega] at HXX; clear own gr ht)
              | (go_at_call 15; (with_reducible refine HXX.out.mono ?_); rintro e w7 ⟨wb5, an5, nl5, k15, am5, ml5, k25, y35, y45, y55, y65, z5, rfl, HB7, _⟩; have HB7 := Lib.hid (HB6.out.trans (HB7.out.mono HB6.out.size))))
            obtain ⟨w8, hw8⟩ : ∃ y, w7.alloc (.cells #[.string wb5, .slice an5 nl5 k15, .slice am5 ml5 k25, .int .i64 y35, .int .i64 y45, .bool y55, .bool y65, .int .u8 z5.p.op, .string z5.p.nm, .slice z5.an z5.nn z5.nc, .slice z5.aa z5.p.k z5.ac] 39) = y := ⟨_, rfl⟩
            have HB8 := Lib.hid (HB7.out.trans ((show Below w7.heap.size w7 w8 by rw [← hw8]; exact (Below.refl _ w7).alloc (Nat.le_refl _) _).mono HB7.out.size))
            rw [hw8]
            clear hw8 HXX HB7 HB6 HO5 HB5 HEA HOE
            by_cases g0 : r2 = 0
            · subst g0
              have HLAST := HB8
              have HXA := Lib.hid (HAW.out w8 HLAST.out)
              go_wp2_with fail
              (with_reducible refine HXA.out.mono ?_)
              rintro e w9 ⟨rfl, q⟩
              go_wp2
              go_returns
              exact ⟨rfl, HLAST.out.trans (q.mono HLAST.out.size)⟩
            · have g1 : (r2 != 0) = true := by simpa using g0
              have g2 : ¬ r1 < (k : Int) := by have := HPP2.out g0; omega
              clear g0
              have HLAST := HB8
              have HXA := Lib.hid (HAW.out w8 HLAST.out)
              go_wp2_with fail
              (with_reducible refine HXA.out.mono ?_)
              rintro e w9 ⟨rfl, q⟩
              go_wp2
              go_returns
              exact ⟨rfl, HLAST.out.trans (q.mono HLAST.out.size)⟩
      · have hml1 : m ≤ n := by rw [← HA.out.len]; exact hml1
        have e11 : (x2 == 0) = false := by simpa using hz1
        have e12 : (x2 != 0) = true := by simpa using hz1
        have e13 : ((m : Int) == -1) = false := by rw [beq_eq_false_iff_ne]; omega
        have e14 : (m : Int) ≤ n := by omega
        have e15 : (0 : Int) ≤ (m : Int) := by omega
        have e16 : (m : Int) ≤ c := by have := HA.out.le; omega
        have HNL1 : Hid ([] ++ l.take m ++ lm = l.take m ++ lm) := Lib.hid (by simp)
        obtain ⟨q1, hq1⟩ : ∃ y, (Lx.exprE (l.take m ++ lm)).2.1 = y := ⟨_, rfl⟩
        obtain ⟨q2, hq2⟩ : ∃ y, (Lx.exprE (l.take m ++ lm)).2.2 = y := ⟨_, rfl⟩
        rw [hq1, hq2] at hp1
        have HPP1 := Lib.hid hp1
        have HQ11 := Lib.hid hq1
        have HQ12 := Lib.hid hq2
        clear hz1 hp1 hq1 hq2
        clear HPE
        by_cases g0 : q2 = 0
        · subst g0
          have h0' : True := trivial
          rcases HPC.out with ⟨rfl, rfl⟩ | ⟨k, rfl, hml2, hz2, hp2⟩
          · go_upto_region 8 with fail
            have HEA := Lib.hid (show Below w.heap.size w (w4.alloc (.cells #[] 47)) from HB4.out.alloc HB4.out.size _)
            have HOE := Lib.hid (own_empty (w := w4.alloc (.cells #[] 47)) HB4.out.size (al_new w4 _) HEA.out.size)
            go_upto_region 9 with (first
              | (at_builtin; refine appQ rfl (.tmp 65) (.tmp 68) rfl w.heap.size _ _ 0 [] rfl HOE.out ao m c (l.take m) rfl ((HA.out.keep HEA.out).take (by omega)) (by omega) HEA.out.size ?_; intro v' w5 own gr; have HO5 := Lib.hid own; have HB5 := Lib.hid (below_grown HEA.out gr (fun q e => (HOE.out.lt q e).1) HEA.out.size); clear own gr)
              | (at_builtin; refine appQ rfl (.tmp 69) (.tmp 70) rfl w.heap.size _ v' (0 + m) ([] ++ l.take m) rfl HO5.out bo n2 c2 lm rfl (HA2.out.keep HB5.out) (by omega) HB5.out.size ?_; intro v3 w6 own gr; have HB6 := Lib.hid (below_grown HB5.out gr (fun q e => (HO5.out.lt q e).1) HB5.out.size); obtain ⟨o3, c3, rfl, ht⟩ := own_tk2 own (show ([] ++ l.take m ++ lm).length = 0 + m + n2 by simp only [List.nil_append, List.length_append, List.length_take, HA.out.len, HA2.out.len]; omega); have HXX := Lib.hid (HEX.out w6 o3 _ c3 _ HB6.out ht (tkb_app (tkb_app tkb_nil (tkb_take HTB.out m)) HTB2.out)); rw [HNL1.out, HQ11.out, HQ12.out, show 0 + m + n2 = m + n2 by omega] at HXX; clear own gr ht)
              | (go_at_call 13; (with_reducible refine HXX.out.mono ?_); rintro e w7 ⟨z3, rfl, HB7, _⟩; have HB7 := Lib.hid (HB6.out.trans (HB7.out.mono HB6.out.size))))
            obtain ⟨w8, hw8⟩ : ∃ y, w7.alloc (.cells #[.int .u8 z3.p.op, .string z3.p.nm, .slice z3.an z3.nn z3.nc, .slice z3.aa z3.p.k z3.ac] 31) = y := ⟨_, rfl⟩
            have HB8 := Lib.hid (HB7.out.trans ((show Below w7.heap.size w7 w8 by rw [← hw8]; exact (Below.refl _ w7).alloc (Nat.le_refl _) _).mono HB7.out.size))
            rw [hw8]
            clear hw8 HXX HB7 HB6 HO5 HB5 HEA HOE
            go_upto_region 11 with fail
            have HLAST := HB8
            have HXA := Lib.hid (HAW.out w8 HLAST.out)
            go_wp2_with fail
            (with_reducible refine HXA.out.mono ?_)
            rintro e w9 ⟨rfl, q⟩
            go_wp2
            go_returns
            exact ⟨rfl, HLAST.out.trans (q.mono HLAST.out.size)⟩
          · by_cases h0 : k = 0
            · subst h0
              have hml2 : 0 ≤ n := by rw [← HA.out.len]; exact hml2
              have e21 : (y2 == 0) = false := by simpa using hz2
              have e22 : (y2 != 0) = true := by simpa using hz2
              have e23 : (((0 : Nat) : Int) == -1) = false := by rw [beq_eq_false_iff_ne]; omega
              have e24 : ((0 : Nat) : Int) ≤ n := by omega
              have e25 : ((0 : Nat) : Int) ≤ 0 := by omega
              have e26 : ((0 : Nat) : Int) ≤ c := by have := HA.out.le; omega
              have HNL2 : Hid ([] ++ l.take 0 ++ lm = l.take 0 ++ lm) := Lib.hid (by simp)
              obtain ⟨r1, hq1⟩ : ∃ y, (Lx.cmE (l.take 0 ++ lm)).2.1 = y := ⟨_, rfl⟩
              obtain ⟨r2, hq2⟩ : ∃ y, (Lx.cmE (l.take 0 ++ lm)).2.2 = y := ⟨_, rfl⟩
              rw [hq1, hq2] at hp2
              have HPP2 := Lib.hid hp2
              have HQ21 := Lib.hid hq1
              have HQ22 := Lib.hid hq2
              clear hz2 hp2 hq1 hq2
              clear HPP2
              go_upto_region 8 with fail
              have HEA := Lib.hid (show Below w.heap.size w (w4.alloc (.cells #[] 47)) from HB4.out.alloc HB4.out.size _)
              have HOE := Lib.hid (own_empty (w := w4.alloc (.cells #[] 47)) HB4.out.size (al_new w4 _) HEA.out.size)
              go_upto_region 9 with (first
                | (at_builtin; refine appQ rfl (.tmp 65) (.tmp 68) rfl w.heap.size _ _ 0 [] rfl HOE.out ao m c (l.take m) rfl ((HA.out.keep HEA.out).take (by omega)) (by omega) HEA.out.size ?_; intro v' w5 own gr; have HO5 := Lib.hid own; have HB5 := Lib.hid (below_grown HEA.out gr (fun q e => (HOE.out.lt q e).1) HEA.out.size); clear own gr)
                | (at_builtin; refine appQ rfl (.tmp 69) (.tmp 70) rfl w.heap.size _ v' (0 + m) ([] ++ l.take m) rfl HO5.out bo n2 c2 lm rfl (HA2.out.keep HB5.out) (by omega) HB5.out.size ?_; intro v3 w6 own gr; have HB6 := Lib.hid (below_grown HB5.out gr (fun q e => (HO5.out.lt q e).1) HB5.out.size); obtain ⟨o3, c3, rfl, ht⟩ := own_tk2 own (show ([] ++ l.take m ++ lm).length = 0 + m + n2 by simp only [List.nil_append, List.length_append, List.length_take, HA.out.len, HA2.out.len]; omega); have HXX := Lib.hid (HEX.out w6 o3 _ c3 _ HB6.out ht (tkb_app (tkb_app tkb_nil (tkb_take HTB.out m)) HTB2.out)); rw [HNL1.out, HQ11.out, HQ12.out, show 0 + m + n2 = m + n2 by omega] at HXX; clear own gr ht)
                | (go_at_call 13; (with_reducible refine HXX.out.mono ?_); rintro e w7 ⟨z3, rfl, HB7, _⟩; have HB7 := Lib.hid (HB6.out.trans (HB7.out.mono HB6.out.size))))
              obtain ⟨w8, hw8⟩ : ∃ y, w7.alloc (.cells #[.int .u8 z3.p.op, .string z3.p.nm, .slice z3.an z3.nn z3.nc, .slice z3.aa z3.p.k z3.ac] 31) = y := ⟨_, rfl⟩
              have HB8 := Lib.hid (HB7.out.trans ((show Below w7.heap.size w7 w8 by rw [← hw8]; exact (Below.refl _ w7).alloc (Nat.le_refl _) _).mono HB7.out.size))
              rw [hw8]
              clear hw8 HXX HB7 HB6 HO5 HB5 HEA HOE
              go_upto_region 11 with fail
              have HLAST := HB8
              have HXA := Lib.hid (HAW.out w8 HLAST.out)
              go_wp2_with fail
              (with_reducible refine HXA.out.mono ?_)
              rintro e w9 ⟨rfl, q⟩
              go_wp2
              go_returns
              exact ⟨rfl, HLAST.out.trans (q.mono HLAST.out.size)⟩
            · have hml2 : k ≤ n := by rw [← HA.out.len]; exact hml2
              have e21 : (y2 == 0) = false := by simpa using hz2
              have e22 : (y2 != 0) = true := by simpa using hz2
              have e23 : ((k : Int) == -1) = false := by rw [beq_eq_false_iff_ne]; omega
              have e24 : (k : Int) ≤ n := by omega
              have e25 : (0 : Int) ≤ (k : Int) := by omega
              have e26 : (k : Int) ≤ c := by have := HA.out.le; omega
              have HNL2 : Hid ([] ++ l.take k ++ lm = l.take k ++ lm) := Lib.hid (by simp)
              obtain ⟨r1, hq1⟩ : ∃ y, (Lx.cmE (l.take k ++ lm)).2.1 = y := ⟨_, rfl⟩
              obtain ⟨r2, hq2⟩ : ∃ y, (Lx.cmE (l.take k ++ lm)).2.2 = y := ⟨_, rfl⟩
              rw [hq1, hq2] at hp2
              have HPP2 := Lib.hid hp2
              have HQ21 := Lib.hid hq1
              have HQ22 := Lib.hid hq2
              clear hz2 hp2 hq1 hq2
              have k0 : (0 : Int) < (k : Int) := by omega
              have HPP2 := Lib.hid (HPP2.out (by omega))
              clear h0
              go_upto_region 8 with fail
              have HEA := Lib.hid (show Below w.heap.size w (w4.alloc (.cells #[] 47)) from HB4.out.alloc HB4.out.size _)
              have HOE := Lib.hid (own_empty (w := w4.alloc (.cells #[] 47)) HB4.out.size (al_new w4 _) HEA.out.size)
              go_upto_region 9 with (first
                | (at_builtin; refine appQ rfl (.tmp 65) (.tmp 68) rfl w.heap.size _ _ 0 [] rfl HOE.out ao m c (l.take m) rfl ((HA.out.keep HEA.out).take (by omega)) (by omega) HEA.out.size ?_; intro v' w5 own gr; have HO5 := Lib.hid own; have HB5 := Lib.hid (below_grown HEA.out gr (fun q e => (HOE.out.lt q e).1) HEA.out.size); clear own gr)
                | (at_builtin; refine appQ rfl (.tmp 69) (.tmp 70) rfl w.heap.size _ v' (0 + m) ([] ++ l.take m) rfl HO5.out bo n2 c2 lm rfl (HA2.out.keep HB5.out) (by omega) HB5.out.size ?_; intro v3 w6 own gr; have HB6 := Lib.hid (below_grown HB5.out gr (fun q e => (HO5.out.lt q e).1) HB5.out.size); obtain ⟨o3, c3, rfl, ht⟩ := own_tk2 own (show ([] ++ l.take m ++ lm).length = 0 + m + n2 by simp only [List.nil_append, List.length_append, List.length_take, HA.out.len, HA2.out.len]; omega); have HXX := Lib.hid (HEX.out w6 o3 _ c3 _ HB6.out ht (tkb_app (tkb_app tkb_nil (tkb_take HTB.out m)) HTB2.out)); rw [HNL1.out, HQ11.out, HQ12.out, show 0 + m + n2 = m + n2 by omega] at HXX; clear own gr ht)
                | (go_at_call 13; (with_reducible refine HXX.out.mono ?_); rintro e w7 ⟨z3, rfl, HB7, _⟩; have HB7 := Lib.hid (HB6.out.trans (HB7.out.mono HB6.out.size))))
              obtain ⟨w8, hw8⟩ : ∃ y, w7.alloc (.cells #[.int .u8 z3.p.op, .string z3.p.nm, .slice z3.an z3.nn z3.nc, .slice z3.aa z3.p.k z3.ac] 31) = y := ⟨_, rfl⟩
              have HB8 := Lib.hid (HB7.out.trans ((show Below w7.heap.size w7 w8 by rw [← hw8]; exact (Below.refl _ w7).alloc (Nat.le_refl _) _).mono HB7.out.size))
              rw [hw8]
              clear hw8 HXX HB7 HB6 HO5 HB5 HEA HOE
              go_upto_region 11 with fail
              go_upto_region 12 with fail
              have HEA := Lib.hid (show Below w.heap.size w (w8.alloc (.cells #[] 47)) from HB8.out.alloc HB8.out.size _)
              have HOE := Lib.hid (own_empty (w := w8.alloc (.cells #[] 47)) HB8.out.size (al_new w8 _) HEA.out.size)
              go_upto_region 13 with (first
                | (at_builtin; refine appQ rfl (.tmp 90) (.tmp 93) rfl w.heap.size _ _ 0 [] rfl HOE.out ao k c (l.take k) rfl ((HA.out.keep HEA.out).take (by omega)) (by omega) HEA.out.size ?_; intro v' w5 own gr; have HO5 := Lib.hid own; have HB5 := Lib.hid (below_grown HEA.out gr (fun q e => (HOE.out.lt q e).1) HEA.out.size); clear own gr)
                | (at_builtin; refine appQ rfl (.tmp 94) (.tmp 95) rfl w.heap.size _ v' (0 + k) ([] ++ l.take k) rfl HO5.out bo n2 c2 lm rfl (HA2.out.keep HB5.out) (by omega) HB5.out.size ?_; intro v3 w6 own gr; have HB6 := Lib.hid (below_grown HB5.out gr (fun q e => (HO5.out.lt q e).1) HB5.out.size); obtain ⟨o3, c3, rfl, ht⟩ := own_tk2 own (show ([] ++ l.take k ++ lm).length = 0 + k + n2 by simp only [List.nil_append, List.length_append, List.length_take, HA.out.len, HA2.out.len]; omega); have HXX := Lib.hid (HCX.out w6 o3 _ c3 _ HB6.out ht (tkb_app (tkb_app tkb_nil (tkb_take HTB.out k)) HTB2.out)); rw [HNL2.out, HQ21.out, HQ22.out, show 0 + k + n2 = k + n2 by omega] at HXX; clear own gr ht)
                | (go_at_call 15; (with_reducible refine HXX.out.mono ?_); rintro e w7 ⟨wb5, an5, nl5, k15, am5, ml5, k25, y35, y45, y55, y65, z5, rfl, HB7, _⟩; have HB7 := Lib.hid (HB6.out.trans (HB7.out.mono HB6.out.size))))
              obtain ⟨w8, hw8⟩ : ∃ y, w7.alloc (.cells #[.string wb5, .slice an5 nl5 k15, .slice am5 ml5 k25, .int .i64 y35, .int .i64 y45, .bool y55, .bool y65, .int .u8 z5.p.op, .string z5.p.nm, .slice z5.an z5.nn z5.nc, .slice z5.aa z5.p.k z5.ac] 39) = y := ⟨_, rfl⟩
              have HB8 := Lib.hid (HB7.out.trans ((show Below w7.heap.size w7 w8 by rw [← hw8]; exact (Below.refl _ w7).alloc (Nat.le_refl _) _).mono HB7.out.size))
              rw [hw8]
              clear hw8 HXX HB7 HB6 HO5 HB5 HEA HOE
              by_cases g0 : r2 = 0
              · subst g0
                have HLAST := HB8
                have HXA := Lib.hid (HAW.out w8 HLAST.out)
                go_wp2_with fail
                (with_reducible refine HXA.out.mono ?_)
                rintro e w9 ⟨rfl, q⟩
                go_wp2
                go_returns
                exact ⟨rfl, HLAST.out.trans (q.mono HLAST.out.size)⟩
              · have g1 : (r2 != 0) = true := by simpa using g0
                have g2 : ¬ r1 < (k : Int) := by have := HPP2.out g0; omega
                clear g0
                have HLAST := HB8
                have HXA := Lib.hid (HAW.out w8 HLAST.out)
                go_wp2_with fail
                (with_reducible refine HXA.out.mono ?_)
                rintro e w9 ⟨rfl, q⟩
                go_wp2
                go_returns
                exact ⟨rfl, HLAST.out.trans (q.mono HLAST.out.size)⟩
        · have g1 : (q2 != 0) = true := by simpa using g0
          have g2 : ¬ q1 < (m : Int) := by have := HPP1.out g0; omega
          clear g0
          rcases HPC.out with ⟨rfl, rfl⟩ | ⟨k, rfl, hml2, hz2, hp2⟩
          · go_upto_region 8 with fail
            have HEA := Lib.hid (show Below w.heap.size w (w4.alloc (.cells #[] 47)) from HB4.out.alloc HB4.out.size _)
            have HOE := Lib.hid (own_empty (w := w4.alloc (.cells #[] 47)) HB4.out.size (al_new w4 _) HEA.out.size)
            go_upto_region 9 with (first
              | (at_builtin; refine appQ rfl (.tmp 65) (.tmp 68) rfl w.heap.size _ _ 0 [] rfl HOE.out ao m c (l.take m) rfl ((HA.out.keep HEA.out).take (by omega)) (by omega) HEA.out.size ?_; intro v' w5 own gr; have HO5 := Lib.hid own; have HB5 := Lib.hid (below_grown HEA.out gr (fun q e => (HOE.out.lt q e).1) HEA.out.size); clear own gr)
              | (at_builtin; refine appQ rfl (.tmp 69) (.tmp 70) rfl w.heap.size _ v' (0 + m) ([] ++ l.take m) rfl HO5.out bo n2 c2 lm rfl (HA2.out.keep HB5.out) (by omega) HB5.out.size ?_; intro v3 w6 own gr; have HB6 := Lib.hid (below_grown HB5.out gr (fun q e => (HO5.out.lt q e).1) HB5.out.size); obtain ⟨o3, c3, rfl, ht⟩ := own_tk2 own (show ([] ++ l.take m ++ lm).length = 0 + m + n2 by simp only [List.nil_append, List.length_append, List.length_take, HA.out.len, HA2.out.len]; omega); have HXX := Lib.hid (HEX.out w6 o3 _ c3 _ HB6.out ht (tkb_app (tkb_app tkb_nil (tkb_take HTB.out m)) HTB2.out)); rw [HNL1.out, HQ11.out, HQ12.out, show 0 + m + n2 = m + n2 by omega] at HXX; clear own gr ht)
              | (go_at_call 13; (with_reducible refine HXX.out.mono ?_); rintro e w7 ⟨z3, rfl, HB7, _⟩; have HB7 := Lib.hid (HB6.out.trans (HB7.out.mono HB6.out.size))))
            obtain ⟨w8, hw8⟩ : ∃ y, w7.alloc (.cells #[.int .u8 z3.p.op, .string z3.p.nm, .slice z3.an z3.nn z3.nc, .slice z3.aa z3.p.k z3.ac] 31) = y := ⟨_, rfl⟩
            have HB8 := Lib.hid (HB7.out.trans ((show Below w7.heap.size w7 w8 by rw [← hw8]; exact (Below.refl _ w7).alloc (Nat.le_refl _) _).mono HB7.out.size))
            rw [hw8]
            clear hw8 HXX HB7 HB6 HO5 HB5 HEA HOE
            go_upto_region 11 with fail
            have HLAST := HB8
            have HXA := Lib.hid (HAW.out w8 HLAST.out)
            go_wp2_with fail
            (with_reducible refine HXA.out.mono ?_)
            rintro e w9 ⟨rfl, q⟩
            go_wp2
            go_returns
            exact ⟨rfl, HLAST.out.trans (q.mono HLAST.out.size)⟩
          · by_cases h0 : k = 0
            · subst h0
              have hml2 : 0 ≤ n := by rw [← HA.out.len]; exact hml2
              have e21 : (y2 == 0) = false := by simpa using hz2
              have e22 : (y2 != 0) = true := by simpa using hz2
              have e23 : (((0 : Nat) : Int) == -1) = false := by rw [beq_eq_false_iff_ne]; omega
              have e24 : ((0 : Nat) : Int) ≤ n := by omega
              have e25 : ((0 : Nat) : Int) ≤ 0 := by omega
              have e26 : ((0 : Nat) : Int) ≤ c := by have := HA.out.le; omega
              have HNL2 : Hid ([] ++ l.take 0 ++ lm = l.take 0 ++ lm) := Lib.hid (by simp)
              obtain ⟨r1, hq1⟩ : ∃ y, (Lx.cmE (l.take 0 ++ lm)).2.1 = y := ⟨_, rfl⟩
              obtain ⟨r2, hq2⟩ : ∃ y, (Lx.cmE (l.take 0 ++ lm)).2.2 = y := ⟨_, rfl⟩
              rw [hq1, hq2] at hp2
              have HPP2 := Lib.hid hp2
              have HQ21 := Lib.hid hq1
              have HQ22 := Lib.hid hq2
              clear hz2 hp2 hq1 hq2
              clear HPP2
              go_upto_region 8 with fail
              have HEA := Lib.hid (show Below w.heap.size w (w4.alloc (.cells #[] 47)) from HB4.out.alloc HB4.out.size _)
              have HOE := Lib.hid (own_empty (w := w4.alloc (.cells #[] 47)) HB4.out.size (al_new w4 _) HEA.out.size)
              go_upto_region 9 with (first
                | (at_builtin; refine appQ rfl (.tmp 65) (.tmp 68) rfl w.heap.size _ _ 0 [] rfl HOE.out ao m c (l.take m) rfl ((HA.out.keep HEA.out).take (by omega)) (by omega) HEA.out.size ?_; intro v' w5 own gr; have HO5 := Lib.hid own; have HB5 := Lib.hid (below_grown HEA.out gr (fun q e => (HOE.out.lt q e).1) HEA.out.size); clear own gr)
                | (at_builtin; refine appQ rfl (.tmp 69) (.tmp 70) rfl w.heap.size _ v' (0 + m) ([] ++ l.take m) rfl HO5.out bo n2 c2 lm rfl (HA2.out.keep HB5.out) (by omega) HB5.out.size ?_; intro v3 w6 own gr; have HB6 := Lib.hid (below_grown HB5.out gr (fun q e => (HO5.out.lt q e).1) HB5.out.size); obtain ⟨o3, c3, rfl, ht⟩ := own_tk2 own (show ([] ++ l.take m ++ lm).length = 0 + m + n2 by simp only [List.nil_append, List.length_append, List.length_take, HA.out.len, HA2.out.len]; omega); have HXX := Lib.hid (HEX.out w6 o3 _ c3 _ HB6.out ht (tkb_app (tkb_app tkb_nil (tkb_take HTB.out m)) HTB2.out)); rw [HNL1.out, HQ11.out, HQ12.out, show 0 + m + n2 = m + n2 by omega] at HXX; clear own gr ht)
                | (go_at_call 13; (with_reducible refine HXX.out.mono ?_); rintro e w7 ⟨z3, rfl, HB7, _⟩; have HB7 := Lib.hid (HB6.out.trans (HB7.out.mono HB6.out.size))))
              obtain ⟨w8, hw8⟩ : ∃ y, w7.alloc (.cells #[.int .u8 z3.p.op, .string z3.p.nm, .slice z3.an z3.nn z3.nc, .slice z3.aa z3.p.k z3.ac] 31) = y := ⟨_, rfl⟩
              have HB8 := Lib.hid (HB7.out.trans ((show Below w7.heap.size w7 w8 by rw [← hw8]; exact (Below.refl _ w7).alloc (Nat.le_refl _) _).mono HB7.out.size))
              rw [hw8]
              clear hw8 HXX HB7 HB6 HO5 HB5 HEA HOE
              go_upto_region 11 with fail
              have HLAST := HB8
              have HXA := Lib.hid (HAW.out w8 HLAST.out)
              go_wp2_with fail
              (with_reducible refine HXA.out.mono ?_)
              rintro e w9 ⟨rfl, q⟩
              go_wp2
              go_returns
              exact ⟨rfl, HLAST.out.trans (q.mono HLAST.out.size)⟩
            · have hml2 : k ≤ n := by rw [← HA.out.len]; exact hml2
              have e21 : (y2 == 0) = false := by simpa using hz2
              have e22 : (y2 != 0) = true := by simpa using hz2
              have e23 : ((k : Int) == -1) = false := by rw [beq_eq_false_iff_ne]; omega
              have e24 : (k : Int) ≤ n := by omega
              have e25 : (0 : Int) ≤ (k : Int) := by omega
              have e26 : (k : Int) ≤ c := by have := HA.out.le; omega
              have HNL2 : Hid ([] ++ l.take k ++ lm = l.take k ++ lm) := Lib.hid (by simp)
              obtain ⟨r1, hq1⟩ : ∃ y, (Lx.cmE (l.take k ++ lm)).2.1 = y := ⟨_, rfl⟩
              obtain ⟨r2, hq2⟩ : ∃ y, (Lx.cmE (l.take k ++ lm)).2.2 = y := ⟨_, rfl⟩
              rw [hq1, hq2] at hp2
              have HPP2 := Lib.hid hp2
              have HQ21 := Lib.hid hq1
              have HQ22 := Lib.hid hq2
              clear hz2 hp2 hq1 hq2
              have k0 : (0 : Int) < (k : Int) := by omega
              have HPP2 := Lib.hid (HPP2.out (by omega))
              clear h0
              go_upto_region 8 with fail
              have HEA := Lib.hid (show Below w.heap.size w (w4.alloc (.cells #[] 47)) from HB4.out.alloc HB4.out.size _)
              have HOE := Lib.hid (own_empty (w := w4.alloc (.cells #[] 47)) HB4.out.size (al_new w4 _) HEA.out.size)
              go_upto_region 9 with (first
                | (at_builtin; refine appQ rfl (.tmp 65) (.tmp 68) rfl w.heap.size _ _ 0 [] rfl HOE.out ao m c (l.take m) rfl ((HA.out.keep HEA.out).take (by omega)) (by omega) HEA.out.size ?_; intro v' w5 own gr; have HO5 := Lib.hid own; have HB5 := Lib.hid (below_grown HEA.out gr (fun q e => (HOE.out.lt q e).1) HEA.out.size); clear own gr)
                | (at_builtin; refine appQ rfl (.tmp 69) (.tmp 70) rfl w.heap.size _ v' (0 + m) ([] ++ l.take m) rfl HO5.out bo n2 c2 lm rfl (HA2.out.keep HB5.out) (by omega) HB5.out.size ?_; intro v3 w6 own gr; have HB6 := Lib.hid (below_grown HB5.out gr (fun q e => (HO5.out.lt q e).1) HB5.out.size); obtain ⟨o3, c3, rfl, ht⟩ := own_tk2 own (show ([] ++ l.take m ++ lm).length = 0 + m + n2 by simp only [List.nil_append, List.length_append, List.length_take, HA.out.len, HA2.out.len]; omega); have HXX := Lib.hid (HEX.out w6 o3 _ c3 _ HB6.out ht (tkb_app (tkb_app tkb_nil (tkb_take HTB.out m)) HTB2.out)); rw [HNL1.out, HQ11.out, HQ12.out, show 0 + m + n2 = m + n2 by omega] at HXX; clear own gr ht)
                | (go_at_call 13; (with_reducible refine HXX.out.mono ?_); rintro e w7 ⟨z3, rfl, HB7, _⟩; have HB7 := Lib.hid (HB6.out.trans (HB7.out.mono HB6.out.size))))
              obtain ⟨w8, hw8⟩ : ∃ y, w7.alloc (.cells #[.int .u8 z3.p.op, .string z3.p.nm, .slice z3.an z3.nn z3.nc, .slice z3.aa z3.p.k z3.ac] 31) = y := ⟨_, rfl⟩
              have HB8 := Lib.hid (HB7.out.trans ((show Below w7.heap.size w7 w8 by rw [← hw8]; exact (Below.refl _ w7).alloc (Nat.le_refl _) _).mono HB7.out.size))
              rw [hw8]
              clear hw8 HXX HB7 HB6 HO5 HB5 HEA HOE
              go_upto_region 11 with fail
              go_upto_region 12 with fail
              have HEA := Lib.hid (show Below w.heap.size w (w8.alloc (.cells #[] 47)) from HB8.out.alloc HB8.out.size _)
              have HOE := Lib.hid (own_empty (w := w8.alloc (.cells #[] 47)) HB8.out.size (al_new w8 _) HEA.out.size)
              go_upto_region 13 with (first
                | (at_builtin; refine appQ rfl (.tmp 90) (.tmp 93) rfl w.heap.size _ _ 0 [] rfl HOE.out ao k c (l.take k) rfl ((HA.out.keep HEA.out).take (by omega)) (by omega) HEA.out.size ?_; intro v' w5 own gr; have HO5 := Lib.hid own; have HB5 := Lib.hid (below_grown HEA.out gr (fun q e => (HOE.out.lt q e).1) HEA.out.size); clear own gr)
                | (at_builtin; refine appQ rfl (.tmp 94) (.tmp 95) rfl w.heap.size _ v' (0 + k) ([] ++ l.take k) rfl HO5.out bo n2 c2 lm rfl (HA2.out.keep HB5.out) (by omega) HB5.out.size ?_; intro v3 w6 own gr; have HB6 := Lib.hid (below_grown HB5.out gr (fun q e => (HO5.out.lt q e).1) HB5.out.size); obtain ⟨o3, c3, rfl, ht⟩ := own_tk2 own (show ([] ++ l.take k ++ lm).length = 0 + k + n2 by simp only [List.nil_append, List.length_append, List.length_take, HA.out.len, HA2.out.len]; omega); have HXX := Lib.hid (HCX.out w6 o3 _ c3 _ HB6.out ht (tkb_app (tkb_app tkb_nil (tkb_take HTB.out k)) HTB2.out)); rw [HNL2.out, HQ21.out, HQ22.out, show 0 + k + n2 = k + n2 by omega] at HXX; clear own gr ht)
                | (go_at_call 15; (with_reducible refine HXX.out.mono ?_); rintro e w7 ⟨wb5, an5, nl5, k15, am5, ml5, k25, y35, y45, y55, y65, z5, rfl, HB7, _⟩; have HB7 := Lib.hid (HB6.out.trans (HB7.out.mono HB6.out.size))))
              obtain ⟨w8, hw8⟩ : ∃ y, w7.alloc (.cells #[.string wb5, .slice an5 nl5 k15, .slice am5 ml5 k25, .int .i64 y35, .int .i64 y45, .bool y55, .bool y65, .int .u8 z5.p.op, .string z5.p.nm, .slice z5.an z5.nn z5.nc, .slice z5.aa z5.p.k z5.ac] 39) = y := ⟨_, rfl⟩
              have HB8 := Lib.hid (HB7.out.trans ((show Below w7.heap.size w7 w8 by rw [← hw8]; exact (Below.refl _ w7).alloc (Nat.le_refl _) _).mono HB7.out.size))
              rw [hw8]
              clear hw8 HXX HB7 HB6 HO5 HB5 HEA HOE
              by_cases g0 : r2 = 0
              · subst g0
                have HLAST := HB8
                have HXA := Lib.hid (HAW.out w8 HLAST.out)
                go_wp2_with fail
                (with_reducible refine HXA.out.mono ?_)
                rintro e w9 ⟨rfl, q⟩
                go_wp2
                go_returns
                exact ⟨rfl, HLAST.out.trans (q.mono HLAST.out.size)⟩
              · have g1 : (r2 != 0) = true := by simpa using g0
                have g2 : ¬ r1 < (k : Int) := by have := HPP2.out g0; omega
                clear g0
                have HLAST := HB8
                have HXA := Lib.hid (HAW.out w8 HLAST.out)
                go_wp2_with fail
                (with_reducible refine HXA.out.mono ?_)
                rintro e w9 ⟨rfl, q⟩
                go_wp2
                go_returns
                exact ⟨rfl, HLAST.out.trans (q.mono HLAST.out.size)⟩
    · have hm1 : (10 : Int) < (n2 : Int) := by omega
      have hm2 : decide ((10 : Int) < (n2 : Int)) = true := by simpa using hm1
      have HX := Lib.hid (HAW.out w (Below.refl _ _))
      clear hn hm
      go_enter Tryd.func7, Tryd.ntmps7
      go_wp2_with fail
      (with_reducible refine HX.out.mono ?_)
      rintro e w1 ⟨rfl, q⟩
      go_wp2
      go_returns
      exact ⟨rfl, q⟩
  · have hn1 : (200 : Int) < (n : Int) := by omega
    have hn2 : decide ((200 : Int) < (n : Int)) = true := by simpa using hn1
    have HX := Lib.hid (HAW.out w (Below.refl _ _))
    clear hn
    go_enter Tryd.func7, Tryd.ntmps7
    go_wp2_with fail
    (with_reducible refine HX.out.mono ?_)
    rintro e w1 ⟨rfl, q⟩
    go_wp2
    go_returns
    exact ⟨rfl, q⟩
end Go.Proofs.YtllhcpkpbipjlaaDoor
