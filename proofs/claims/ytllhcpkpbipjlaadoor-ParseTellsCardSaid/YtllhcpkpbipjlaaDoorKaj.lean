/- M11 in one. -/
import Derived.Test.YtllhcpkpbipjlaaDoorKah
import Derived.Test.YtllhcpkpbipjlaaDoorKai
import Derived.Laws.AppendOwnNone
namespace Go.Proofs.YtllhcpkpbipjlaaDoor
set_option linter.unusedVariables false
set_option linter.unusedSimpArgs false
open Go.ChangeShapes Go.WideShapes Go.ChangeAt Go.RowKit

/-- Tokens in memory appended to a row of the call's own. -/
theorem appQ {ops : Array Oper} {rest : List Oper} {o : Oper} {a : Act} {Q : Exit → Act → World → Prop} (hgd : o.guard = none) (s x : Operand)
    (ho : o.op = .call { callee := .builtin .append, args := #[s, x], argTypes := #[22, 22] }) (base : Nat) (w : World) (v : Value) (n : Nat) (l : List Lx.Tk) (hs : a.eval s = v) (hown : w.ownsRow base 47 3 v n (tkCells l)) (ao : Option Addr) (m c : Nat) (k : List Lx.Tk) (hx : a.eval x = .slice ao m c) (hk : TkAt w ao m c k) (hn : n + m ≤ 1048576) (hbase : base ≤ w.heap.size)
    (h : ∀ v' w', w'.ownsRow base 47 3 v' (n + m) (tkCells (l ++ k)) → w.grownBy w' v.ownBlock → wpList Tryd.prog ops Q rest (a.put o.dst v') w') : wpList Tryd.prog ops Q (o :: rest) a w := by
  obtain ⟨k0, hk1, hkz0, hkz1, hkz2⟩ := info_parts' info47
  cases ao with
  | none =>
    obtain ⟨rfl, rfl⟩ := hk.bare rfl
    obtain rfl : k = [] := List.eq_nil_of_length_eq_zero hk.len
    exact wpList_append_own_none hgd s x 22 ho base 47 k0 3 Tryd.underlying22 hk1 v n (tkCells l) hs hown hx (h v w (by simpa using hown) ⟨rfl, rfl, rfl, Nat.le_refl _, fun _ _ _ => rfl⟩)
  | some ad =>
    refine wpList_append_own_at _ hgd s x 22 ho base 47 k0 (.agg #[.int .u8 0, .string ⟨#[]⟩, .int .i64 0]) 3 32 Tryd.underlying22 hk1 hkz0 hkz1 hkz2 rfl (by decide) v n (tkCells l) hs hown ad m c (tkCells k) hx (by rw [tkCells_len, hk.len]) (fun j u hj => ?_) (tkCells_one k) (by unfold maxLen; omega) (by omega) hbase (fun v' w' a b _ _ => h v' w' (by rw [tkCells_app]; exact a) b)
    have hj2 : j < k.length * 3 := by
      have := (List.getElem?_eq_some_iff.1 hj).1
      rwa [tkCells_len] at this
    obtain ⟨b, p, e, hc⟩ := hk.here (by have := hk.len; omega)
    cases e
    rw [show (Addr.add ⟨b, p, none⟩ j) = ⟨b, p + j, none⟩ by simp only [Addr.add]; split <;> simp_all]
    have hi : j / 3 < k.length := by omega
    obtain ⟨c0, c1, c2⟩ := hc (j / 3) hi
    obtain ⟨g0, g1, g2⟩ := tkCells_get k (j / 3) hi
    have hr : j % 3 = 0 ∨ j % 3 = 1 ∨ j % 3 = 2 := by omega
    rcases hr with r | r | r
    · rw [show j = j / 3 * 3 by omega] at hj ⊢
      rw [g0] at hj; rw [← hj]; exact c0
    · rw [show j = j / 3 * 3 + 1 by omega] at hj ⊢
      rw [g1] at hj; rw [← hj, ← Nat.add_assoc]; exact c1
    · rw [show j = j / 3 * 3 + 2 by omega] at hj ⊢
      rw [g2] at hj; rw [← hj, ← Nat.add_assoc]; exact c2
theorem tk_block {w : World} {b : Nat} {cs : Array Value} {n : Nat} (l : List Lx.Tk) (h : w.heap[b]? = some (.cells cs 47 (0, 0))) (hcs : cs.toList = tkCells l) (hl : l.length = n) (hn : n ≤ 100) : TkAt w (some ⟨b, 0, none⟩) n n l :=
  ⟨hl, Nat.le_refl _, by omega, (fun e => by cases e), fun h0 => ⟨b, 0, rfl, fun i hi => by
    have gt := tkCells_get l i hi
    have e : ∀ j, w.cell? ⟨b, 0 + j, none⟩ = (tkCells l)[j]? := fun j => by rw [Nat.zero_add, cell_blk h, ← hcs]; simp
    exact ⟨by rw [e]; exact gt.1, by rw [Nat.add_assoc, e]; exact gt.2.1, by rw [Nat.add_assoc, e]; exact gt.2.2⟩⟩⟩
theorem own_tk2 {w : World} {B n : Nat} {v : Value} {l : List Lx.Tk} (h : w.ownsRow B 47 3 v n (tkCells l)) (hn : l.length = n) : ∃ ao c, v = .slice ao n c ∧ TkAt w ao n c l := by
  subst hn; exact own_tk h
theorem tkb_app {l k : List Lx.Tk} (h : Lx.TkB l) (q : Lx.TkB k) : Lx.TkB (l ++ k) := fun t ht => by
  rcases List.mem_append.1 ht with e | e
  · exact h t e
  · exact q t e
theorem tkb_dep : ∀ k, Lx.TkB (Lx.depL k)
  | 0 => tkb_nil
  | k + 1 => tkb_app (tkb_dep k) (tkb_cons (by decide) (tkb_cons (by decide) (tkb_cons (by decide) (tkb_cons (by decide) tkb_nil))))
set_option maxRecDepth 20000 in
set_option maxHeartbeats 4000000 in
theorem parseDepth_walk (a : Int) (ao : Option Addr) (n c : Nat) (lb : List Lx.Tk) (w : World) (hT : Tabn w) (hW : Tabw w) (a0 : 0 ≤ a) (a1 : a ≤ 255) (hA : TkAt w ao n c lb) (hB : Lx.TkB lb) :
    Calls Tryd.prog 5 #[.int .u8 a, .slice ao n c] w fun e w' => e = .returned (.bool true) ∧ Below w.heap.size w w' := by
  have HAW := Lib.hid (fun W (k : Below w.heap.size w W) => awake_any W (hT.keep k) (hW.keep k))
  have HEX := Lib.hid (fun W ao n c l (k : Below w.heap.size w W) (h1 : TkAt W ao n c l) (h2 : Lx.TkB l) => expr_any W ao n c l h1 h2 (hT.keep k) (hW.keep k))
  have HA := Lib.hid hA
  have HTB := Lib.hid hB
  have n1 : (n : Int) ≤ 9223372036854775807 := by have := hA.le; have := hA.top; omega
  have n0 : (0 : Int) ≤ (n : Int) := by omega
  clear hT hW hA hB
  by_cases hn : n ≤ 50
  · have hn1 : ¬ (50 : Int) < (n : Int) := by omega
    have hn2 : decide ((50 : Int) < (n : Int)) = false := by simpa using hn1
    go_enter Tryd.func5, Tryd.ntmps5
    go_upto_region 6 with fail
    obtain ⟨D, hD⟩ : ∃ D : Nat, 35 + a % 11 - 1 = (D : Int) := ⟨(35 + a % 11 - 1).toNat, by omega⟩
    have hD2 : 35 + a % 11 = (D : Int) + 1 := by omega
    have D0 : 34 ≤ D := by omega
    have D1 : D ≤ 44 := by omega
    have D2 : (0 : Int) ≤ (D : Int) := by omega
    have D3 : (D : Int) ≤ 44 := by omega
    rw [hD, hD2]
    clear hD hD2
    have HB : Hid (Below w.heap.size w w) := Lib.hid (Below.refl _ _)
    have HO : Hid (w.ownsRow w.heap.size 47 3 (.slice none 0 0) (4 * 0) (tkCells (Lx.depL 0))) := Lib.hid (World.ownsRow_nil _ _ _ _)
    go_loopw [6, 21] (fun s6 ii wr => ∃ j : Nat, j ≤ D ∧ ii = .int .i64 j ∧ Hid (Below w.heap.size w wr) ∧ Hid (wr.ownsRow w.heap.size 47 3 s6 (4 * j) (tkCells (Lx.depL j)))) (fun _ ii _ => D - (intOf ii).toNat)
    case atStart => exact ⟨0, Nat.zero_le _, rfl, HB, HO⟩
    case round =>
      clear HB HO
      obtain ⟨j, hj, rfl, HB, HO⟩ := hrel
      have j0 : (0 : Int) ≤ (j : Int) := by omega
      by_cases jlt : j < D
      · have j1 : (j : Int) < D := by omega
        go_wp2_with (at_builtin; refine appQ rfl (.tmp 23) (.tmp 28) rfl w.heap.size _ u6 (4 * j) (Lx.depL j) rfl (HO.out.alloc _) (some ⟨wr.heap.size, 0, none⟩) 4 4 Lx.sh4 rfl (tk_block Lx.sh4 (al_new _ _) rfl rfl (by omega)) (by omega) (Nat.le_trans HB.out.size (by simp)) ?_; intro v' w2 own gr; have HO2 := Lib.hid own; have HB2 := Lib.hid (below_grown (HB.out.alloc HB.out.size _) gr (fun q e => (HO.out.lt q e).1) (Nat.le_trans HB.out.size (by simp))); clear own gr)
        go_roundw
        case rel => exact ⟨j + 1, by omega, by go_num, HB2, Lib.hid (by have := HO2.out; rw [show 4 * (j + 1) = 4 * j + 4 by omega]; exact this)⟩
        case measure => simp [intOf]; omega
      · obtain rfl : j = D := by omega
        obtain ⟨ox, cx, rfl, ht⟩ := own_tk2 HO.out (Lx.depL_len j)
        obtain ⟨N4, hN4⟩ : ∃ N4, 4 * j = N4 := ⟨_, rfl⟩
        have HN4 := Lib.hid hN4
        rw [hN4] at HO ⊢
        have N0 : (0 : Int) ≤ (N4 : Int) := by omega
        have N1 : (N4 : Int) ≤ 176 := by omega
        have N2 : N4 ≤ 176 := by omega
        clear ht hN4 jlt hj
        go_upto_region 11 with (first
          | (at_builtin; refine appQ rfl (.tmp 33) (.tmp 35) rfl w.heap.size _ (.slice ox N4 cx) N4 (Lx.depL j) rfl (HO.out.alloc _) (some ⟨wr.heap.size, 0, none⟩) 1 1 [(1, [97], 0)] rfl (tk_block [(1, [97], 0)] (al_new _ _) rfl rfl (by omega)) (by omega) (Nat.le_trans HB.out.size (by simp)) ?_; intro v' w2 own gr; have HO2 := Lib.hid own; have HB2 := Lib.hid (below_grown (HB.out.alloc HB.out.size _) gr (fun q e => (HO.out.lt q e).1) (Nat.le_trans HB.out.size (by simp))); clear own gr)
          | (at_builtin; refine appQ rfl (.tmp 36) (.tmp 37) rfl w.heap.size _ v' (N4 + 1) (Lx.depL j ++ [(1, [97], 0)]) rfl HO2.out ao n c lb rfl (HA.out.keep HB2.out) (by omega) HB2.out.size ?_; intro v3 w3 own gr; have HO3 := Lib.hid own; have HB3 := Lib.hid (below_grown HB2.out gr (fun q e => (HO2.out.lt q e).1) HB2.out.size); clear own gr))
        have HL3 : Hid ((Lx.depL j ++ [(1, [97], 0)] ++ lb).length = N4 + 1 + n) := Lib.hid (by rw [List.length_append, List.length_append, Lx.depL_len, HN4.out, HA.out.len]; rfl)
        obtain ⟨o3, c3, rfl, ht⟩ := own_tk2 HO3.out HL3.out
        have HX := Lib.hid (HEX.out w3 o3 (N4 + 1 + n) c3 _ HB3.out ht (tkb_app (tkb_app (tkb_dep j) (tkb_cons (by decide) tkb_nil)) HTB.out))
        obtain ⟨L, hL⟩ : ∃ L, Lx.depL j ++ [(1, [97], 0)] ++ lb = L := ⟨_, rfl⟩
        have HLL : Hid (L = Lx.depL j ++ (1, [97], 0) :: lb) := Lib.hid (by rw [← hL]; simp)
        rw [hL] at HX
        obtain ⟨x1, hx1⟩ : ∃ x, (Lx.exprE L).2.1 = x := ⟨_, rfl⟩
        obtain ⟨x2, hx2⟩ : ∃ x, (Lx.exprE L).2.2 = x := ⟨_, rfl⟩
        have HQ : Hid ((40 ≤ j → x1 = 160 ∧ x2 = 111) ∧ (j < 40 → (x1 = -1 ∧ x2 = 0) ∨ (N4 : Int) < x1)) := Lib.hid (by
          rw [← hx1, ← hx2, HLL.out]
          refine ⟨fun z => Lx.depth_out j _ lb rfl z (by omega), fun z => ?_⟩
          rcases Lx.depth_in j (1, [97], 0) lb rfl z with e | e
          · exact .inl e
          · refine .inr ?_
            have := HN4.out
            omega)
        rw [hx1, hx2] at HX
        clear HO HO2 HO3 HL3 HB HB2 ht hL HLL hx1 hx2 HEX
        go_wp2_with fail
        (with_reducible refine HX.out.mono ?_)
        rintro e w4 ⟨z, rfl, HB4, _⟩
        have HB3 := Lib.hid (HB3.out.trans (HB4.out.mono HB3.out.size))
        have HB5 := Lib.hid (HB3.out.trans (((Below.refl _ w4).alloc (Nat.le_refl _) (.cells #[.int .u8 z.p.op, .string z.p.nm, .slice z.an z.nn z.nc, .slice z.aa z.p.k z.ac] 31)).mono HB3.out.size))
        clear HX HB4
        obtain ⟨w5, hw5⟩ : ∃ y, w4.alloc (.cells #[.int .u8 z.p.op, .string z.p.nm, .slice z.an z.nn z.nc, .slice z.aa z.p.k z.ac] 31) = y := ⟨_, rfl⟩
        rw [hw5] at HB5
        have HX := Lib.hid (HAW.out w5 HB5.out)
        go_upto_region 12 with fail
        clear hw5
        by_cases hj : 40 ≤ j
        · obtain ⟨rfl, rfl⟩ := HQ.out.1 hj
          have q1 : (40 : Int) < (j : Int) + 1 := by omega
          clear HQ hj
          go_wp2_with fail
          (with_reducible refine HX.out.mono ?_)
          rintro e w6 ⟨rfl, q⟩
          go_wp2
          go_returns
          exact ⟨rfl, HB5.out.trans (q.mono HB5.out.size)⟩
        · have hj2 : j < 40 := by omega
          have q1 : ¬ (40 : Int) < (j : Int) + 1 := by omega
          rcases HQ.out.2 hj2 with ⟨rfl, rfl⟩ | h
          · clear HQ hj hj2
            go_wp2_with fail
            (with_reducible refine HX.out.mono ?_)
            rintro e w6 ⟨rfl, q⟩
            go_wp2
            go_returns
            exact ⟨rfl, HB5.out.trans (q.mono HB5.out.size)⟩
          · have q2 : (x1 == -1) = false := by simp; omega
            have q3 : (N4 : Int) < x1 := h
            clear HQ hj hj2
            by_cases q4 : x2 = 111
            · subst q4
              go_wp2_with fail
              (with_reducible refine HX.out.mono ?_)
              rintro e w6 ⟨rfl, q⟩
              go_wp2
              go_returns
              exact ⟨rfl, HB5.out.trans (q.mono HB5.out.size)⟩
            · have q5 : (x2 != 111) = true := by simpa using q4
              clear q4
              go_wp2_with fail
              (with_reducible refine HX.out.mono ?_)
              rintro e w6 ⟨rfl, q⟩
              go_wp2
              go_returns
              exact ⟨rfl, HB5.out.trans (q.mono HB5.out.size)⟩
  · have hn1 : (50 : Int) < (n : Int) := by omega
    have hn2 : decide ((50 : Int) < (n : Int)) = true := by simpa using hn1
    have HX := Lib.hid (HAW.out w (Below.refl _ _))
    clear hn
    go_enter Tryd.func5, Tryd.ntmps5
    go_wp2_with fail
    (with_reducible refine HX.out.mono ?_)
    rintro e w1 ⟨rfl, q⟩
    go_wp2
    go_returns
    exact ⟨rfl, q⟩
end Go.Proofs.YtllhcpkpbipjlaaDoor
