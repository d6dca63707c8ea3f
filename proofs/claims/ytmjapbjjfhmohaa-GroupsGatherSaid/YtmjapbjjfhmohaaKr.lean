/- M5 in one. -/
import Derived.Test.YtmjapbjjfhmohaaKq
import Derived.Sort.BigQuietIn
namespace Go.Proofs.Ytmjapbjjfhmohaa
set_option linter.unusedVariables false
set_option linter.unusedSimpArgs false
open Go.ChangeShapes Go.WideShapes Go.ChangeAt Go.RowKit
section
attribute [local go_sem] Oper.semAt_some
theorem divisors_stops (n0 x : Nat) (n : Nat) (hn : n ≤ 1000000) (w1 : World) (hc : w1.cell? ⟨x, 0, none⟩ = some (.int .i64 (n : Int))) :
    SeqStopsK Fence.wide 2 Try.prog 82 #[.pointer (some ⟨x, 0, none⟩)] (dvs n) (Kd n0 x) (fun xs => ∀ d : Dv n, d ∈ xs) (fun pre => ∃ pre' d, pre = pre' ++ [d] ∧ ∀ e : Dv n, e.1 < d.1 → e ∈ pre') n w1 := fun l J Jx W hW hJ hJx hY h0' => by
  have h1 := cell_keep hc hW
  exact divisors_in 2 (by omega) l x n0 n hn J Jx W hY hJ (fun W' hk => by rw [← h1]; exact World.cell?_of_block (w := W) hk.x_) h0'
theorem wpIn_scope_wide {n : Nat} {P : Program} {c : Code} {Q : Exit → Act → World → Prop} {a : Act} {w : World} (h : c.wpIn Fence.wide n P (Exit.noGoto Q) a w) : (Code.scope c).wpIn Fence.wide n P Q a w := wpIn_wide.2 (wp_scope_straight (wpIn_wide.1 h))
/-- A world in which all that lay still lies as it lay. -/
structure Cls (W : World) where
  w : World
  h : Below W.heap.size W w
instance (W : World) : Inhabited (Cls W) := ⟨⟨W, Below.refl _ _⟩⟩
theorem quiet_round {n l id : Nat} {P : Program} {W : World} {Q : Exit → Act → World → Prop} {a : Act} {w : World} {lst : List Oper} (hm : P.follows .mixedOrders = true) (hnd : lst.toArray.all undeferred = true) (hB : Region.lexB .any lst.toArray = true) (hC : Below W.heap.size W w)
    (h : wpQuietIn Fence.wide n P lst.toArray (fun w' => ∃ p : Cls W, w' = p.w) (fun a' => ∀ w', (∃ p : Cls W, w' = p.w) → Q .normal a' w') lst a) : (Code.region id lst.toArray true).wpIn (Fence.wide.inRound l) n P Q a w := by
  simp only [Region.lexB, Bool.and_eq_true] at hB
  refine drawn_round hm hnd (wpAnyIn_of_quiet (C := fun w' => ∃ p : Cls W, w' = p.w) (Q := fun a' => ∀ w', (∃ p : Cls W, w' = p.w) → Q .normal a' w') rfl (fun _ w' hw' h => h w' hw') _ _ _ _ ⟨⟨w.drew, hC.drew⟩, rfl⟩ ?_)
  have := wpAnyQIn_lex (F := Fence.wide) (n := n) (C := fun w' => ∃ p : Cls W, w' = p.w) (md := .any) hB.1 lst 0 (Array.replicate lst.length false) a (by simp) (by simpa using hB.2) h
  simpa using this
theorem cls_call {P : Program} {n : Nat} {W : World} {p : Cls W} {f : FuncId} {args : Array Value} {v : Value} (h : Calls P f args p.w fun e w' => e = .returned v ∧ Below p.w.heap.size p.w w') : CallsIn Fence.wide n P f args p.w fun e w'' => e = .returned v ∧ ∃ q : Cls W, w'' = q.w :=
  (callsIn_wide.2 h).mono fun _ w'' ⟨he, hb⟩ => ⟨he, ⟨w'', p.h.trans (hb.mono p.h.size)⟩, rfl⟩
theorem turn_no {cs : List (List Sp)} {P N : Int} {d : Nat} (h : Full cs N) {i : Nat} (hi : i < cs.length) (hd : d ≤ cs.length) (hn : ¬ cg cs P N ((i : Int) + d) = moved (cg cs P N (i : Int)) (P * d / N)) : ¬ TurnOk cs P N d := fun q => hn (q.go i)
/-- How the loop is left: at the first turn. -/
structure TurnLeft (cs : List (List Sp)) (P : Int) (cn b2 : Nat) (pre : List (Dv cn)) (W : World) : Prop where
  ex : ∃ pre' d, pre = pre' ++ [d] ∧ TurnOk cs P (cn : Int) d.1 ∧ W.cell? ⟨b2, 0, none⟩ = some (.int .i64 (d.1 : Int)) ∧ (∀ e ∈ pre', ¬ TurnOk cs P (cn : Int) e.1)
theorem keepsFrom_below {B : Nat} {W W' : World} (h : Below W.heap.size W W') : KeepsFrom B W W' := ⟨h.size, fun k o _ h0 _ => (h.block k (Array.getElem?_eq_some_iff.1 h0).1).trans h0⟩
theorem kd_put {n₀ x : Nat} {w : World} (h : n₀ ≤ w.heap.size) (hx : x < w.heap.size) (W : World) (l : Nat) (o o' : Obj) (hl : w.heap.size ≤ l) (h0 : W.heap[l]? = some o) (h1 : o.isCells = false) (h2 : o.isWalk = false) : Kd n₀ x W (W.putObj l o') :=
  ⟨belowK_b (w := w) h W l o o' hl h0 h1 h2, World.putObj_heap_other (by omega)⟩
set_option maxRecDepth 100000 in
set_option maxHeartbeats 4000000 in
theorem turn_any (F : Fv) (w : World) (hF : F.At w) (ok : F.Ok) :
    Calls Try.prog 35 #[F.v] w fun e w' => ∃ d : Nat, e = .returned (.int .i64 (d : Int)) ∧ IsTurn F.cs F.P F.N d ∧ Below w.heap.size w w' := by
  have HK := Lib.hid ok
  obtain ⟨P, N, co, cn, cc, oo, on, oc, cs, os⟩ := F
  have LC : Hid (cs.length = cn) := Lib.hid hF.core.len
  have cn1 : cn ≤ 1000000 := ok.cn
  have hmeas : (N = 0 ∧ P = 0 ∧ cn = 0) ∨ (N ≠ 0 ∧ N = cn ∧ 1 ≤ P ∧ P ≤ 1099511627776) := ok.meas
  clear ok
  obtain ⟨b, hb⟩ : ∃ b, w.heap.size = b := ⟨_, rfl⟩
  obtain ⟨b2, hb2⟩ : ∃ b2, b + 1 = b2 := ⟨_, rfl⟩
  obtain ⟨wb, hwb⟩ : ∃ wb, w.alloc (.cells #[.int .i64 P, .int .i64 N, .slice co cn cc, .slice oo on oc] 25) = wb := ⟨_, rfl⟩
  have HBB : Hid (Fbox ⟨P, N, co, cn, cc, oo, on, oc, cs, os⟩ w wb b) := Lib.hid (by rw [← hwb, ← hb]; exact fbox_new hF)
  have hszb : wb.heap.size = b2 := by rw [← hwb, ← hb2, ← hb]; simp
  obtain ⟨wc, hwc⟩ : ∃ wc, wb.alloc (.cells #[.int .i64 0] 3) = wc := ⟨_, rfl⟩
  obtain ⟨wd, hwd⟩ : ∃ wd, wc.setCell ⟨b2, 0, none⟩ (.int .i64 0) = wd := ⟨_, rfl⟩
  have KA : Below wb.heap.size wb wd := by rw [← hwd, ← hwc]; exact ((Below.refl _ wb).alloc (Nat.le_refl _) _).setCell (p := ⟨b2, 0, none⟩) (by rw [hszb]; exact Nat.le_refl _) _
  have x0 : wd.cell? ⟨b2, 0, none⟩ = some (.int .i64 0) := by
    have q := box_one wb (.int .i64 0) 3
    rw [hwc, hszb] at q
    rw [← hwd]; exact World.cell?_setCell_same' _ _ _ (by rw [q]; rfl)
  have f0 : wd.frozen? ⟨b2, 0, none⟩ = false := by
    rw [← hwd, World.frozen?_setCell, ← hwc, ← hszb]
    exact (Boxed.new wb 3 (.int .i64 0)).frozen
  have HB0 := HBB
  have HBB := Lib.hid (HBB.out.keep KA)
  obtain ⟨rS, hrS⟩ : ∃ r : Bool, r = true ↔ ∃ l ∈ cs, l ≠ [] := by classical exact ⟨decide _, decide_eq_true_iff⟩
  have HS := Lib.hid (containsSome_any co cn cc cs wd HBB.out.at_.core rS hrS)
  have HRS := Lib.hid hrS
  have c2 : wd.cell? ⟨b, 2, none⟩ = some (.slice co cn cc) := HBB.out.c2
  have hszd : wd.heap.size = b2 + 1 := by rw [← hwd, ← hwc]; simp [hszb]
  have hszc : wc.heap.size = b2 + 1 := by rw [← hwc]; simp [hszb]
  have KC : Below wb.heap.size wb wc := by rw [← hwc]; exact (Below.refl _ wb).alloc (Nat.le_refl _) _
  have c2' : wc.cell? ⟨b, 2, none⟩ = some (.slice co cn cc) := cell_keep (HB0.out.c2) KC
  have y0 : wc.cell? ⟨b2, 0, none⟩ = some (.int .i64 0) := by
    have q := box_one wb (.int .i64 0) 3
    rw [hwc, hszb] at q; exact q
  have yf : wc.frozen? ⟨b2, 0, none⟩ = false := by
    rw [← hwc, ← hszb]
    exact (Boxed.new wb 3 (.int .i64 0)).frozen
  have hne : ¬ b = b2 := by omega
  clear hF KA hrS KC HB0
  show Calls Try.prog 35 #[.agg #[.int .i64 P, .int .i64 N, .slice co cn cc, .slice oo on oc]] w _
  refine (callsIn_wide (n := 3)).1 ?_
  refine callsIn_of_wp_marks Try.func35 rfl trivial ?_ rfl
  simp only [Try.ntmps35, List.size_toArray, List.length_cons, List.length_nil, Nat.reduceAdd, Nat.reduceSub, Array.replicate_succ, Array.replicate_zero, List.push_toArray, List.append_toArray, List.nil_append, List.cons_append]
  gi_wp2
  refine wpIn_scope_wide ?_
  cases rS
  · have HBARE : Hid (∀ l ∈ cs, l = []) := Lib.hid (fun l hl => Classical.byContradiction (fun z => by have := HRS.out.2 ⟨l, hl, z⟩; cases this))
    gi_wp2
    refine ⟨trivial, ?_⟩
    refine (callsIn_wide.2 HS.out).mono ?_
    rintro e w1 ⟨rfl, hb1⟩
    have x1 := cell_keep x0 hb1
    have HB1 := Lib.hid (HBB.out.keep hb1)
    clear hb1
    gi_wp2
    rw [Exit.noGoto_ret]
    exact ⟨_, results_tmp rfl _ _ _, 0, rfl, .inl ⟨rfl, HBARE.out⟩, HB1.out.bw⟩
  · have HSOME : Hid (∃ l ∈ cs, l ≠ []) := Lib.hid (HRS.out.1 rfl)
    have hcn : 0 < cs.length := by
      obtain ⟨l, hl, _⟩ := HSOME.out
      exact List.length_pos_of_mem hl
    rw [LC.out] at hcn
    have hm2 : N = (cn : Int) ∧ 1 ≤ P ∧ P ≤ 1099511627776 := by
      rcases hmeas with ⟨_, _, h⟩ | ⟨_, h1, h2, h3⟩
      · omega
      · exact ⟨h1, h2, h3⟩
    obtain ⟨m1, m2, m3⟩ := hm2
    subst m1
    have HFU : Hid (Full cs (cn : Int)) := Lib.hid ⟨by omega, by rw [LC.out]⟩
    clear hmeas HRS
    have HDV := Lib.hid (fun W => divisors_any (cn : Int) W)
    gi_wp2
    refine ⟨trivial, ?_⟩
    refine (callsIn_wide.2 HS.out).mono ?_
    rintro e w1 ⟨rfl, hb1⟩
    have x1 := cell_keep x0 hb1
    have xf1 : w1.frozen? ⟨b2, 0, none⟩ = false := (free_keep f0 x0 hb1)
    have HB1 := Lib.hid (HBB.out.keep hb1)
    have hs1 := hb1.size
    clear hb1 x0 f0 y0 yf c2 c2' HS HBB
    have d1 : w1.cell? ⟨b, 1, none⟩ = some (.int .i64 (cn : Int)) := HB1.out.c1
    gi_wp2
    refine wpIn_label ?_
    gi_wp2
    refine ⟨trivial, ?_⟩
    refine (callsIn_wide.2 (HDV.out _)).mono ?_
    rintro e w2 ⟨rfl, rfl⟩
    gi_wp2
    obtain ⟨bx, hbx⟩ : ∃ bx, w1.heap.size = bx := ⟨_, rfl⟩
    obtain ⟨W0, hW0⟩ : ∃ W0, w1.alloc (.cells #[.int .i64 (cn : Int)] 3) = W0 := ⟨_, rfl⟩
    have hsz : W0.heap.size = bx + 1 := by rw [← hW0, ← hbx]; simp
    have KW : Below w1.heap.size w1 W0 := by rw [← hW0]; exact (Below.refl _ w1).alloc (Nat.le_refl _) _
    have HB0 := Lib.hid (HB1.out.keep KW)
    have z0 := cell_keep x1 KW
    have zf := free_keep xf1 x1 KW
    have hn0 : W0.cell? ⟨bx, 0, none⟩ = some (.int .i64 (cn : Int)) := by rw [← hW0, ← hbx]; exact box_one w1 _ 3
    rw [hW0, hbx]
    have hb2x : b2 < bx := by omega
    clear hW0 KW x1 xf1 d1 hs1 HB1 hbx HDV
    refine wpIn_rangeFunc_ownH rfl (by omega) (gf := 82) (lb := #[.pointer (some ⟨bx, 0, none⟩)]) rfl trivial (enters_of Try.func82 (by kernel_rfl) rfl)
      (divisors_stops W0.heap.size bx cn cn1 W0 hn0) (fun p q => p.trans q) (kd_put (Nat.le_refl _) (by omega)) (Below.refl _ _) (fun _ => rfl)
      (fun pre W => (∀ e ∈ pre, ¬ TurnOk cs P (cn : Int) e.1) ∧ Below W0.heap.size W0 W)
      (fun c pre W => (c = .exit 0 ∧ TurnLeft cs P cn b2 pre W) ∧ Below w.heap.size w W)
      (OwnFrom.and (ownFrom_pure _ _) (ownFrom_below (Nat.le_refl _) (Nat.le_refl _)))
      (fun c => OwnFrom.and (fun s A W row hs hg hr => by obtain ⟨h1, p, d, h2, h3, h4, h5⟩ := hs; exact ⟨h1, ⟨p, d, h2, h3, cell_kept h4 hg (fun r e => (hr r e).2), h5⟩⟩) (ownFrom_below (Nat.le_refl _) HB0.out.bw.size))
      ⟨(fun e h => by cases h), Below.refl _ _⟩
      (fun x a' W => a' = { tmps := ((.agg #[.int .i64 P, .int .i64 (cn : Int), .slice co cn cc, .slice oo on oc] : Value) :: .pointer (some ⟨b, 0, none⟩) :: .int .i64 0 :: .pointer (some ⟨b2, 0, none⟩) :: .int .i64 (x.1 : Int) :: undef :: undef :: undef :: undef :: .pointer (some ⟨b, 2, none⟩) :: .slice co cn cc :: .bool true :: .bool false :: undef :: .pointer (some ⟨b, 1, none⟩) :: .int .i64 (cn : Int) :: .func (.func 82) #[] #[.pointer (some ⟨bx, 0, none⟩)] :: .int .i64 (x.1 : Int) :: undef :: undef :: undef :: undef :: undef :: undef :: undef :: undef :: undef :: undef :: undef :: undef :: undef :: undef :: undef :: undef :: undef :: undef :: undef :: undef :: undef :: undef :: undef :: undef :: undef :: undef :: undef :: undef :: undef :: undef :: undef :: undef :: undef :: undef :: undef :: undef :: undef :: undef :: undef :: undef :: undef :: undef :: undef :: undef :: undef :: undef :: undef :: undef :: undef :: undef :: undef :: undef :: []).toArray, defers := [] })
      (fun x a' s A W row hs _ _ => hs) ?assign ?body ?done ?stop
    case assign =>
      rintro l pre x W K hI0 hK
      have HI0 := Lib.hid hI0
      clear hI0
      unfold dvs
      gi_wp2
      exact hK _ _ ((KeepsOthers.refl _).from _) (Kd.refl _ _ _) HI0.out rfl
    case body =>
      rintro l pre x a' W hl ⟨r, hr⟩ ⟨hN, hB⟩ rfl hlt
      obtain ⟨d, hd0, hd1, hd2⟩ := x
      have HN := Lib.hid hN
      have HB := Lib.hid hB
      have HBW := Lib.hid (HB0.out.keep hB)
      clear hN hB hr hlt hl
      have e0 : W.cell? ⟨b, 0, none⟩ = some (.int .i64 P) := HBW.out.c0
      have e1 : W.cell? ⟨b, 1, none⟩ = some (.int .i64 (cn : Int)) := HBW.out.c1
      have e2 : W.cell? ⟨b, 2, none⟩ = some (.slice co cn cc) := HBW.out.c2
      have w0 := cell_keep z0 HB.out
      have wf := free_keep zf z0 HB.out
      have q0 : 0 ≤ P * (d : Int) := Int.mul_nonneg (by omega) (by omega)
      have q1 : P * (d : Int) ≤ 1099511627776000000 := by
        have a1 : P * (d : Int) ≤ 1099511627776 * (d : Int) := Int.mul_le_mul_of_nonneg_right m3 (by omega)
        omega
      have r3 : (cn : Int) ≠ 0 := by omega
      have r4 : ¬ (P * (d : Int) = -9223372036854775808 ∧ (cn : Int) = -1) := by omega
      by_cases hz : P * (d : Int) % (cn : Int) = 0
      · have t0 : (P * (d : Int) % (cn : Int) != 0) = false := by simp; exact hz
        obtain ⟨y, hy⟩ : ∃ y, P * (d : Int) / (cn : Int) = y := ⟨_, rfl⟩
        have hyQ : P * (d : Int) = (cn : Int) * y := by
          have := Int.mul_ediv_add_emod (P * (d : Int)) (cn : Int)
          rw [hz, hy] at this; omega
        have y0 : 0 ≤ y := by rw [← hy]; exact Int.ediv_nonneg q0 (by omega)
        have y1 : y ≤ 1099511627776000000 := by
          have : y ≤ P * (d : Int) := by rw [← hy]; exact Int.ediv_le_self _ q0
          omega
        clear hyQ
        have g0 := Lib.hid (fun p : Cls W => cell_keep e0 p.h)
        have g1 := Lib.hid (fun p : Cls W => cell_keep e1 p.h)
        have g2 := Lib.hid (fun p : Cls W => cell_keep e2 p.h)
        obtain ⟨g, p0, hco, hcc⟩ := HBW.out.at_.core.here hcn
        have hco : co = some ⟨g, p0, none⟩ := hco
        subst hco
        have HCC : Hid (∀ i (h : i < cs.length), ∃ o k d, W.cell? ⟨g, p0 + i, none⟩ = some (.slice o k d) ∧ SpAt W o k d cs[i]) := Lib.hid hcc
        have hml : cn ≤ 9223372036854775807 := by omega
        clear hcc
        gi_wp2
        gi_loopw [35] (fun ii wr => ∃ i : Nat, i ≤ cn ∧ ii = .int .i64 i ∧ Hid (∀ k : Nat, k < i → cg cs P (cn : Int) ((k : Int) + d) = moved (cg cs P (cn : Int) (k : Int)) y) ∧ Hid (Below W.heap.size W wr)) (fun ii _ => cn - (intOf ii).toNat)
        case atStart => exact ⟨0, Nat.zero_le _, rfl, Lib.hid (fun k h => absurd h (Nat.not_lt_zero _)), Lib.hid (Below.refl _ _)⟩
        case round =>
          obtain ⟨i, hi, rfl, HG, HR⟩ := hrel
          by_cases ilt : i < cn
          · have t1 : (i : Int) < (cn : Int) := by omega
            have i0 : (0 : Int) ≤ (i : Int) := by omega
            have hil : i < cs.length := by rw [LC.out]; exact ilt
            obtain ⟨oi, mi, ci, ai, si⟩ := HCC.out i hil
            have gi : Good cs[i] := HK.out.core _ (List.getElem_mem hil)
            have hAI := Lib.hid (fun p : Cls W => cell_keep ai p.h)
            have k1 := cell_keep e1 HR.out
            by_cases hf : i + d < cn
            · obtain ⟨j, hj⟩ : ∃ j : Nat, (i : Int) + (d : Int) = (j : Int) := ⟨i + d, by omega⟩
              have hjd : j = i + d := by omega
              have hjl : j < cs.length := by rw [LC.out]; omega
              have t2 : ¬ (cn : Int) ≤ (j : Int) := by omega
              have j0 : (0 : Int) ≤ (j : Int) := by omega
              have j1 : (j : Int) < (cn : Int) := by omega
              obtain ⟨oj, mj, cj, aj, sj⟩ := HCC.out j hjl
              have gj : Good cs[j] := HK.out.core _ (List.getElem_mem hjl)
              have hAJ := Lib.hid (fun p : Cls W => cell_keep aj p.h)
              obtain ⟨r, hr⟩ : ∃ r : Bool, r = true ↔ moved cs[i] y = cs[j] := by classical exact ⟨decide _, decide_eq_true_iff⟩
              have HM := Lib.hid (fun p : Cls W => movedF_any oi oj mi ci mj cj cs[i] cs[j] y p.w (si.keep p.h) (sj.keep p.h) gi gj (by omega) (by omega) r hr)
              have HRI : Hid (r = true ↔ cg cs P (cn : Int) ((i : Int) + d) = moved (cg cs P (cn : Int) (i : Int)) y) := Lib.hid (by
                rw [turn_at HFU.out hil (by rw [LC.out]; exact hd1), hr]
                constructor
                · intro q; refine .inl ⟨by omega, ?_⟩; rw [q]; congr 1
                · rintro (⟨_, q⟩ | ⟨q, _⟩)
                  · rw [q]; congr 1; exact hjd.symm
                  · rw [LC.out] at q; omega)
              have HWR := HR
              clear hr si sj gi gj ai aj hjd
              gi_wp2
              have r2 := g2.out
              have r3' := hAI.out
              have r4' := hAJ.out
              refine quiet_round (W := W) (by kernel_rfl) (by kernel_rfl) (by kernel_rfl) HWR.out ?_
              repeat (first | gi_big_quiet_step (fail) | (refine BigFrame.wpQuietIn_want (fun _ _ _ _ => trivial) rfl (fun K hK => ?_); gi_big_quiet_op; refine ⟨_, fun _ => cls_call (HM.out _), hK _ ?_⟩; clear hK K))
              refine wpQuietIn_nil ?_
              rintro _ ⟨⟨w4, hw4⟩, rfl⟩
              try dsimp only
              have HW4 := Lib.hid hw4
              clear hw4
              cases r
              · have HN2 : Hid (∀ e ∈ pre ++ [(⟨d, hd0, hd1, hd2⟩ : Dv cn)], ¬ TurnOk cs P (cn : Int) e.1) := Lib.hid (fun e he => by
                  rcases List.mem_append.1 he with h | h
                  · exact HN.out e h
                  · rw [List.mem_singleton.1 h]
                    exact turn_no HFU.out hil (by rw [LC.out]; exact hd1) (fun q => by rw [hy] at q; have := HRI.out.2 q; cases this))
                gi_wp2
                exact ⟨keepsFrom_below HW4.out, Kd.keep (Nat.le_trans (Nat.le_of_eq rfl) HB.out.size) (by have := HB.out.size; omega) HW4.out, HN2.out, HB.out.trans (HW4.out.mono HB.out.size)⟩
              · have HG2 : Hid (∀ k : Nat, k < i + 1 → cg cs P (cn : Int) ((k : Int) + d) = moved (cg cs P (cn : Int) (k : Int)) y) := Lib.hid (fun k hk => by
                  by_cases q : k < i
                  · exact HG.out k q
                  · obtain rfl : k = i := by omega
                    exact HRI.out.1 rfl)
                gi_wp2
                go_roundw
                case rel => exact ⟨i + 1, by omega, by go_num, HG2, HW4⟩
                case measure => simp [intOf]; omega
            · obtain ⟨j, hj⟩ : ∃ j : Nat, (i : Int) + (d : Int) - (cn : Int) = (j : Int) := ⟨i + d - cn, by omega⟩
              have hjd : j = i + d - cn := by omega
              have hjl : j < cs.length := by rw [LC.out]; omega
              have t2 : (cn : Int) ≤ (i : Int) + (d : Int) := by omega
              have j0 : (0 : Int) ≤ (j : Int) := by omega
              have j1 : (j : Int) < (cn : Int) := by omega
              obtain ⟨v, hv⟩ : ∃ v, y - P = v := ⟨_, rfl⟩
              obtain ⟨oj, mj, cj, aj, sj⟩ := HCC.out j hjl
              have gj : Good cs[j] := HK.out.core _ (List.getElem_mem hjl)
              have hAJ := Lib.hid (fun p : Cls W => cell_keep aj p.h)
              obtain ⟨r, hr⟩ : ∃ r : Bool, r = true ↔ moved cs[i] v = cs[j] := by classical exact ⟨decide _, decide_eq_true_iff⟩
              have HM := Lib.hid (fun p : Cls W => movedF_any oi oj mi ci mj cj cs[i] cs[j] v p.w (si.keep p.h) (sj.keep p.h) gi gj (by omega) (by omega) r hr)
              have HRI : Hid (r = true ↔ cg cs P (cn : Int) ((i : Int) + d) = moved (cg cs P (cn : Int) (i : Int)) y) := Lib.hid (by
                rw [turn_at HFU.out hil (by rw [LC.out]; exact hd1), hr]
                constructor
                · intro q; refine .inr ⟨by rw [LC.out]; omega, by rw [LC.out]; omega, ?_⟩; rw [hv, q]; congr 1; rw [LC.out]; exact hjd
                · rintro (⟨q, _⟩ | ⟨_, _, q⟩)
                  · rw [LC.out] at q; omega
                  · rw [hv] at q; rw [q]; congr 1; rw [LC.out]; exact hjd.symm)
              clear hr si sj gi gj ai aj hjd
              have r1 := g0.out
              have r2 := g1.out
              gi_wp2
              refine quiet_round (W := W) (by kernel_rfl) (by kernel_rfl) (by kernel_rfl) HR.out ?_
              repeat (gi_big_quiet_step (fail))
              refine wpQuietIn_nil ?_
              rintro _ ⟨⟨w5, hw5⟩, rfl⟩
              try dsimp only
              have HWR := Lib.hid hw5
              clear hw5
              gi_wp2
              have r2 := g2.out
              have r3' := hAI.out
              have r4' := hAJ.out
              refine quiet_round (W := W) (by kernel_rfl) (by kernel_rfl) (by kernel_rfl) HWR.out ?_
              repeat (first | gi_big_quiet_step (fail) | (refine BigFrame.wpQuietIn_want (fun _ _ _ _ => trivial) rfl (fun K hK => ?_); gi_big_quiet_op; refine ⟨_, fun _ => cls_call (HM.out _), hK _ ?_⟩; clear hK K))
              refine wpQuietIn_nil ?_
              rintro _ ⟨⟨w4, hw4⟩, rfl⟩
              try dsimp only
              have HW4 := Lib.hid hw4
              clear hw4
              cases r
              · have HN2 : Hid (∀ e ∈ pre ++ [(⟨d, hd0, hd1, hd2⟩ : Dv cn)], ¬ TurnOk cs P (cn : Int) e.1) := Lib.hid (fun e he => by
                  rcases List.mem_append.1 he with h | h
                  · exact HN.out e h
                  · rw [List.mem_singleton.1 h]
                    exact turn_no HFU.out hil (by rw [LC.out]; exact hd1) (fun q => by rw [hy] at q; have := HRI.out.2 q; cases this))
                gi_wp2
                exact ⟨keepsFrom_below HW4.out, Kd.keep (Nat.le_trans (Nat.le_of_eq rfl) HB.out.size) (by have := HB.out.size; omega) HW4.out, HN2.out, HB.out.trans (HW4.out.mono HB.out.size)⟩
              · have HG2 : Hid (∀ k : Nat, k < i + 1 → cg cs P (cn : Int) ((k : Int) + d) = moved (cg cs P (cn : Int) (k : Int)) y) := Lib.hid (fun k hk => by
                  by_cases q : k < i
                  · exact HG.out k q
                  · obtain rfl : k = i := by omega
                    exact HRI.out.1 rfl)
                gi_wp2
                go_roundw
                case rel => exact ⟨i + 1, by omega, by go_num, HG2, HW4⟩
                case measure => simp [intOf]; omega
          · obtain rfl : i = cn := by omega
            have HT : Hid (TurnOk cs P (i : Int) d) := Lib.hid (turn_of HFU.out hd0 (Int.natCast_dvd_natCast.2 (Nat.dvd_of_mod_eq_zero hd2)) (Int.dvd_of_emod_eq_zero hz) (fun k hk => by rw [hy]; exact HG.out k (by rw [← LC.out]; exact hk)))
            have k0 := cell_keep w0 HR.out
            have kf := free_keep wf w0 HR.out
            have t1 : ¬ (i : Int) < (i : Int) := by omega
            have HC : Hid ((wr.setCell ⟨b2, 0, none⟩ (.int .i64 (d : Int))).cell? ⟨b2, 0, none⟩ = some (.int .i64 (d : Int))) := Lib.hid (World.cell?_setCell_same' _ _ _ (by rw [k0]; rfl))
            gi_wp2
            exact ⟨(keepsFrom_below HR.out).trans ((KeepsOthers.setCell _ _ _).from _), ⟨rfl, ⟨_, _, rfl, HT.out, HC.out, HN.out⟩⟩, (by have q := ((HB0.out.bw.trans (HB.out.mono HB0.out.bw.size)).trans (HR.out.mono (Nat.le_trans HB0.out.bw.size HB.out.size))).setCell (p := ⟨b2, 0, none⟩) (by show _ ≤ b2; omega) (.int .i64 (d : Int)); first | exact q | (rw [hb] at q; exact q))⟩
      · have t0 : (P * (d : Int) % (cn : Int) != 0) = true := by simp; exact hz
        have HN2 : Hid (∀ e ∈ pre ++ [(⟨d, hd0, hd1, hd2⟩ : Dv cn)], ¬ TurnOk cs P (cn : Int) e.1) := Lib.hid (fun e he => by
          rcases List.mem_append.1 he with h | h
          · exact HN.out e h
          · rw [List.mem_singleton.1 h]
            exact fun q => hz (Int.emod_eq_zero_of_dvd q.per))
        gi_wp2
        exact ⟨(KeepsOthers.refl _).from _, Kd.refl _ _ _, HN2.out, HB.out⟩
    case done =>
      rintro D ys W hD hS ⟨hN, hB⟩ hK
      exact absurd (by have q := turn_all (P := P) HFU.out; rw [LC.out] at q; exact q) (hN ⟨cn, hcn, Nat.le_refl _, Nat.mod_self _⟩ (hS _))
    case stop =>
      rintro D c pre W hD ⟨p1, q1, hp1, hq1⟩ ⟨⟨rfl, p2, d, hp2, hT, hc, hN⟩, hB⟩ hK
      have e1 : p1 = p2 ∧ q1 = d := by
        rw [hp1] at hp2
        have := List.append_inj' hp2 rfl
        exact ⟨this.1, by simpa using this.2⟩
      obtain ⟨rfl, rfl⟩ := e1
      have HIS : Hid (IsTurn cs P (cn : Int) q1.1) := Lib.hid (.inr ⟨HSOME.out, hT, fun e he => by
        by_cases h : q1.1 ≤ e
        · exact h
        · have hdv : e ∣ cn := Int.natCast_dvd_natCast.1 he.div
          exact absurd he (hN ⟨e, he.pos, Nat.le_of_dvd hcn hdv, Nat.mod_eq_zero_of_dvd hdv⟩ (hq1 _ (by show e < q1.1; omega)))⟩)
      have HBW := Lib.hid hB
      clear hp1 hq1 hp2 hT hN hB
      gi_wp2
      rw [Exit.noGoto_ret]
      refine ⟨by simp, .inl ⟨_, _, rfl, run_takeDeferred hK, ?_⟩⟩
      exact ⟨_, results_tmp rfl _ _ _, q1.1, rfl, HIS.out, HBW.out.trans (belowK_b (w := w) (Nat.le_refl _) W D _ _ (by have := HB0.out.bw.size; omega) hK rfl rfl)⟩
end
end Go.Proofs.Ytmjapbjjfhmohaa
