/- The document's own answer for layer 8: Same, of forms that are the same. -/
import Derived.Test.YtacpcokmgahjaaaDoorT4
import Derived.BigRegion
import Derived.Laws.OwnMore
import Derived.Deep.RegionHeld3
namespace Go.Proofs.YtacpcokmgahjaaaDoor
set_option linter.unusedVariables false
set_option linter.unusedSimpArgs false
open Go.ChangeShapes Go.WideShapes Go.ChangeAt Go.RowKit
/-- One span in memory. -/
def OneA (w : World) (l o : Nat) (a b : Int) : Prop := w.cell? ⟨l, o, none⟩ = some (.int .i64 a) ∧ w.cell? ⟨l, o + 1, none⟩ = some (.int .i64 b)
theorem OneA.keep {w w' : World} {l o : Nat} {a b : Int} (h : OneA w l o a b) (q : Below w.heap.size w w') : OneA w' l o a b := ⟨cell_keep h.1 q, cell_keep h.2 q⟩
theorem co_entry {w : World} {ao : Option Addr} {n c i : Nat} {cs : List (List Sp)} {a b : Int} (h : CoAt w ao n c cs) (hi : i < n) (he : cs[i]? = some [(a, b)]) : ∃ q p l o k, ao = some ⟨q, p, none⟩ ∧ w.cell? ⟨q, p + i, none⟩ = some (.slice (some ⟨l, o, none⟩) 1 k) ∧ OneA w l o a b := by
  obtain ⟨q, p, e, hc⟩ := h.here (by omega)
  have hl : i < cs.length := by rw [h.len]; exact hi
  obtain ⟨o, k, d, e1, e2⟩ := hc i hl
  rw [List.getElem?_eq_getElem hl] at he
  rw [Option.some.inj he] at e2
  obtain rfl : k = 1 := e2.len.symm
  obtain ⟨l, r, rfl, hx⟩ := e2.here (by decide)
  have x := hx 0 (by simp)
  refine ⟨q, p, l, r, d, e, e1, ?_, ?_⟩
  · simpa using x.1
  · simpa using x.2
set_option maxHeartbeats 1000000 in
theorem rspans_same (l o k m p c : Nat) (a b : Int) (w : World) (h1 : OneA w l o a b) (h2 : OneA w m p a b) :
    Calls Tryd.prog 25 #[.slice (some ⟨l, o, none⟩) 1 k, .slice (some ⟨m, p, none⟩) 1 c] w fun e w' => e = .returned (.bool true) ∧ Below w.heap.size w w' := by
  have H1 := Lib.hid h1
  have H2 := Lib.hid h2
  clear h1 h2
  go_enter Tryd.func25, Tryd.ntmps25
  go_upto_region 4 with fail
  go_loopw [5] (fun ii wr => ∃ j : Nat, j ≤ 1 ∧ ii = .int .i64 j ∧ Hid (Below w.heap.size w wr)) (fun ii _ => 1 - (intOf ii).toNat)
  case atStart => exact ⟨0, by decide, rfl, Lib.hid (Below.refl _ _)⟩
  case round =>
    obtain ⟨j, hj, rfl, HB⟩ := hrel
    have c1 := cell_keep H1.out.1 HB.out
    have c2 := cell_keep H1.out.2 HB.out
    have c3 := cell_keep H2.out.1 HB.out
    have c4 := cell_keep H2.out.2 HB.out
    by_cases jz : j = 0
    · subst jz
      go_upto_region 6 with fail
      go_region
      have HB2 := Lib.hid (HB.out.trans ((Below.refl _ wr).drew.mono HB.out.size))
      clear c1 c2 c3 c4
      go_wp2
      go_roundw
      case rel => exact ⟨1, by decide, by go_num, HB2⟩
      case measure => simp [intOf]
    · obtain rfl : j = 1 := by omega
      go_wp2
      go_returns
      exact ⟨rfl, HB.out⟩
/-- The two forms in their boxes. -/
structure Two3 (w0 w : World) (ba bb : Nat) (P : Int) (n : Nat) (a1 : Option Addr) (c1 : Nat) (o1 : Option Addr) (d1 : Nat) (a2 : Option Addr) (c2 : Nat) (o2 : Option Addr) (d2 : Nat) (cs : List (List Sp)) : Prop where
  bw : Below w0.heap.size w0 w
  xa : w.heap[ba]? = some (.cells #[.int .i64 P, .int .i64 (n : Int), .slice a1 n c1, .slice o1 0 d1] 29 (0, 0))
  xb : w.heap[bb]? = some (.cells #[.int .i64 P, .int .i64 (n : Int), .slice a2 n c2, .slice o2 0 d2] 29 (0, 0))
  ca : CoAt w a1 n c1 cs
  cb : CoAt w a2 n c2 cs
theorem Two3.keep {w0 w w' : World} {ba bb : Nat} {P : Int} {n : Nat} {a1 : Option Addr} {c1 : Nat} {o1 : Option Addr} {d1 : Nat} {a2 : Option Addr} {c2 : Nat} {o2 : Option Addr} {d2 : Nat} {cs : List (List Sp)} (h : Two3 w0 w ba bb P n a1 c1 o1 d1 a2 c2 o2 d2 cs) (q : Below w.heap.size w w') : Two3 w0 w' ba bb P n a1 c1 o1 d1 a2 c2 o2 d2 cs :=
  ⟨h.bw.trans (q.mono h.bw.size), (q.block ba (Array.getElem?_eq_some_iff.1 h.xa).1).trans h.xa, (q.block bb (Array.getElem?_eq_some_iff.1 h.xb).1).trans h.xb, h.ca.keep q, h.cb.keep q⟩
set_option maxRecDepth 8000 in
set_option maxHeartbeats 2000000 in
theorem rsame_same (P : Int) (n : Nat) (a1 : Option Addr) (c1 : Nat) (o1 : Option Addr) (d1 : Nat) (a2 : Option Addr) (c2 : Nat) (o2 : Option Addr) (d2 : Nat) (cs : List (List Sp)) (w : World) (hn : n ≤ 4800) (hs : ∀ j, j < n → ∃ A B, cs[j]? = some [(A, B)]) (h1 : CoAt w a1 n c1 cs) (h2 : CoAt w a2 n c2 cs) :
    Calls Tryd.prog 13 #[.agg #[.int .i64 P, .int .i64 (n : Int), .slice a1 n c1, .slice o1 0 d1], .agg #[.int .i64 P, .int .i64 (n : Int), .slice a2 n c2, .slice o2 0 d2]] w fun e w' => e = .returned (.bool true) ∧ Below w.heap.size w w' := by
  have HSS := Lib.hid hs
  obtain ⟨ba, hba⟩ : ∃ z, w.heap.size = z := ⟨_, rfl⟩
  obtain ⟨w1, hw1⟩ : ∃ z, (w.alloc (.cells #[.int .i64 P, .int .i64 (n : Int), .slice a1 n c1, .slice o1 0 d1] 29)).alloc (.cells #[.int .i64 P, .int .i64 (n : Int), .slice a2 n c2, .slice o2 0 d2] 29) = z := ⟨_, rfl⟩
  have HT3 : Hid (Two3 w w1 ba (ba + 1) P n a1 c1 o1 d1 a2 c2 o2 d2 cs) := Lib.hid (by
    have K : Below w.heap.size w w1 := by rw [← hw1]; exact ((Below.refl _ w).alloc (Nat.le_refl _) _).alloc (by simp) _
    exact ⟨K, by rw [← hw1, al_old _ _ (by simp; omega), ← hba, al_new], by rw [← hw1, show ba + 1 = (w.alloc (.cells #[.int .i64 P, .int .i64 (n : Int), .slice a1 n c1, .slice o1 0 d1] 29)).heap.size by simp; omega, al_new], h1.keep K, h2.keep K⟩)
  have n0 : (0 : Int) ≤ (n : Int) := by omega
  have n1 : (n : Int) ≤ 4800 := by omega
  clear hs h1 h2
  have e0 := cell_blk HT3.out.xa 0
  have e1 := cell_blk HT3.out.xa 1
  have e2 := cell_blk HT3.out.xa 2
  have e3 := cell_blk HT3.out.xa 3
  have f0 := cell_blk HT3.out.xb 0
  have f1 := cell_blk HT3.out.xb 1
  have f2 := cell_blk HT3.out.xb 2
  have f3 := cell_blk HT3.out.xb 3
  go_enter Tryd.func13, Tryd.ntmps13
  go_upto_region 4 with fail
  clear hw1 hba e0 e1 e2 e3 f0 f1 f2 f3
  go_loopw [5] (fun ii wr => ∃ j : Nat, j ≤ n ∧ ii = .int .i64 j ∧ Hid (Two3 w wr ba (ba + 1) P n a1 c1 o1 d1 a2 c2 o2 d2 cs)) (fun ii _ => n - (intOf ii).toNat)
  case atStart => exact ⟨0, Nat.zero_le _, rfl, HT3⟩
  case round =>
    clear HT3
    obtain ⟨j, hj, rfl, HT3⟩ := hrel
    have i0 : (0 : Int) ≤ (j : Int) := by omega
    have e2 := cell_blk HT3.out.xa 2
    have f2 := cell_blk HT3.out.xb 2
    by_cases jlt : j < n
    · have i1 : (j : Int) < n := by omega
      obtain ⟨A, B, hab⟩ := HSS.out j jlt
      obtain ⟨q, p, l, o, k, rfl, g1, g2⟩ := co_entry HT3.out.ca jlt hab
      obtain ⟨x, y, m, r, c, rfl, k1, k2⟩ := co_entry HT3.out.cb jlt hab
      have HE0 : Hid (∀ W : World, Two3 w W ba (ba + 1) P n (some ⟨q, p, none⟩) c1 o1 d1 (some ⟨x, y, none⟩) c2 o2 d2 cs ∧ W.cell? ⟨q, p + j, none⟩ = some (.slice (some ⟨l, o, none⟩) 1 k) ∧ W.cell? ⟨x, y + j, none⟩ = some (.slice (some ⟨m, r, none⟩) 1 c) ∧ OneA W l o A B ∧ OneA W m r A B → W.cell? ⟨ba, 2, none⟩ = some (.slice (some ⟨q, p, none⟩) n c1) ∧ W.cell? ⟨ba + 1, 2, none⟩ = some (.slice (some ⟨x, y, none⟩) n c2)) := Lib.hid (fun W h => ⟨cell_blk h.1.xa 2, cell_blk h.1.xb 2⟩)
      have HS1 : Hid (Two3 w wr ba (ba + 1) P n (some ⟨q, p, none⟩) c1 o1 d1 (some ⟨x, y, none⟩) c2 o2 d2 cs ∧ OneA wr l o A B ∧ OneA wr m r A B) := Lib.hid ⟨HT3.out, g2, k2⟩
      clear hab g2 k2 HE0 HT3
      go_upto_region 6 with fail
      clear e2 f2
      have e2 := cell_blk HS1.out.1.xa 2
      have f2 := cell_blk HS1.out.1.xb 2
      refine wp_region_held_drew (S := (fun W => W.cell? ⟨ba, 2, none⟩ = some (.slice (some ⟨q, p, none⟩) n c1) ∧ W.cell? ⟨ba + 1, 2, none⟩ = some (.slice (some ⟨x, y, none⟩) n c2) ∧ W.cell? ⟨q, p + j, none⟩ = some (.slice (some ⟨l, o, none⟩) 1 k) ∧ W.cell? ⟨x, y + j, none⟩ = some (.slice (some ⟨m, r, none⟩) 1 c) ∧ Hid (Two3 w W ba (ba + 1) P n (some ⟨q, p, none⟩) c1 o1 d1 (some ⟨x, y, none⟩) c2 o2 d2 cs ∧ OneA W l o A B ∧ OneA W m r A B))) (by kernel_rfl) ?_ (fun hHeld => ?_)
      · exact ⟨cell_keep e2 (Below.refl _ _).drew, cell_keep f2 (Below.refl _ _).drew, cell_keep g1 (Below.refl _ _).drew, cell_keep k1 (Below.refl _ _).drew, Lib.hid ⟨HS1.out.1.keep (Below.refl _ _).drew, HS1.out.2.1.keep (Below.refl _ _).drew, HS1.out.2.2.keep (Below.refl _ _).drew⟩⟩
      refine wpAnyH_take (i := 0) (oi := _) (v := ?_) rfl (by kernel_rfl) (by kernel_rfl) (by kernel_rfl) (fun _ _ _ h => h) (Or.inl ⟨by kernel_rfl, ?_⟩) (by assumption) ?_
      rotate_left 1
      focus (intro wq hSw; (try dsimp only at hSw); obtain ⟨s0, s1, s2, s3, s4⟩ := hSw; go_simp; (try with_reducible rfl); done)
      try simp only [List.getElem_toArray, List.getElem_cons_zero, List.getElem_cons_succ, Act.put, List.setIfInBounds_toArray, List.set_cons_zero, List.set_cons_succ]
      refine wpAnyH_take (i := 1) (oi := _) (v := ?_) rfl (by kernel_rfl) (by kernel_rfl) (by kernel_rfl) (fun _ _ _ h => h) (Or.inl ⟨by kernel_rfl, ?_⟩) (by assumption) ?_
      rotate_left 1
      focus (intro wq hSw; (try dsimp only at hSw); obtain ⟨s0, s1, s2, s3, s4⟩ := hSw; go_simp; (try with_reducible rfl); done)
      try simp only [List.getElem_toArray, List.getElem_cons_zero, List.getElem_cons_succ, Act.put, List.setIfInBounds_toArray, List.set_cons_zero, List.set_cons_succ]
      refine wpAnyH_take (i := 2) (oi := _) (v := ?_) rfl (by kernel_rfl) (by kernel_rfl) (by kernel_rfl) (fun _ _ _ h => h) (Or.inl ⟨by kernel_rfl, ?_⟩) (by assumption) ?_
      rotate_left 1
      focus (intro wq hSw; (try dsimp only at hSw); obtain ⟨s0, s1, s2, s3, s4⟩ := hSw; go_simp; (try with_reducible rfl); done)
      try simp only [List.getElem_toArray, List.getElem_cons_zero, List.getElem_cons_succ, Act.put, List.setIfInBounds_toArray, List.set_cons_zero, List.set_cons_succ]
      refine wpAnyH_take (i := 3) (oi := _) (v := ?_) rfl (by kernel_rfl) (by kernel_rfl) (by kernel_rfl) (fun _ _ _ h => h) (Or.inl ⟨by kernel_rfl, ?_⟩) (by assumption) ?_
      rotate_left 1
      focus (intro wq hSw; (try dsimp only at hSw); obtain ⟨s0, s1, s2, s3, s4⟩ := hSw; go_simp; (try with_reducible rfl); done)
      try simp only [List.getElem_toArray, List.getElem_cons_zero, List.getElem_cons_succ, Act.put, List.setIfInBounds_toArray, List.set_cons_zero, List.set_cons_succ]
      refine wpAnyH_take (i := 4) (oi := _) (v := ?_) rfl (by kernel_rfl) (by kernel_rfl) (by kernel_rfl) (fun _ _ _ h => h) (Or.inl ⟨by kernel_rfl, ?_⟩) (by assumption) ?_
      rotate_left 1
      focus (intro wq hSw; (try dsimp only at hSw); obtain ⟨s0, s1, s2, s3, s4⟩ := hSw; go_simp; (try with_reducible rfl); done)
      try simp only [List.getElem_toArray, List.getElem_cons_zero, List.getElem_cons_succ, Act.put, List.setIfInBounds_toArray, List.set_cons_zero, List.set_cons_succ]
      refine wpAnyH_take (i := 5) (oi := _) (v := ?_) rfl (by kernel_rfl) (by kernel_rfl) (by kernel_rfl) (fun _ _ _ h => h) (Or.inl ⟨by kernel_rfl, ?_⟩) (by assumption) ?_
      rotate_left 1
      focus (intro wq hSw; (try dsimp only at hSw); obtain ⟨s0, s1, s2, s3, s4⟩ := hSw; go_simp; (try with_reducible rfl); done)
      try simp only [List.getElem_toArray, List.getElem_cons_zero, List.getElem_cons_succ, Act.put, List.setIfInBounds_toArray, List.set_cons_zero, List.set_cons_succ]
      refine wpAnyH_take (i := 6) (oi := _) (v := ?_) rfl (by kernel_rfl) (by kernel_rfl) (by kernel_rfl) (fun _ _ _ h => h) (Or.inl ⟨by kernel_rfl, ?_⟩) (by assumption) ?_
      rotate_left 1
      focus (intro wq hSw; (try dsimp only at hSw); obtain ⟨s0, s1, s2, s3, s4⟩ := hSw; go_simp; (try with_reducible rfl); done)
      try simp only [List.getElem_toArray, List.getElem_cons_zero, List.getElem_cons_succ, Act.put, List.setIfInBounds_toArray, List.set_cons_zero, List.set_cons_succ]
      refine wpAnyH_take (i := 7) (oi := _) (v := ?_) rfl (by kernel_rfl) (by kernel_rfl) (by kernel_rfl) (fun _ _ _ h => h) (Or.inl ⟨by kernel_rfl, ?_⟩) (by assumption) ?_
      rotate_left 1
      focus (intro wq hSw; (try dsimp only at hSw); obtain ⟨s0, s1, s2, s3, s4⟩ := hSw; go_simp; (try with_reducible rfl); done)
      try simp only [List.getElem_toArray, List.getElem_cons_zero, List.getElem_cons_succ, Act.put, List.setIfInBounds_toArray, List.set_cons_zero, List.set_cons_succ]
      refine wpAnyH_take (i := 8) (oi := _) (v := ?_) rfl (by kernel_rfl) (by kernel_rfl) (by kernel_rfl) (fun _ _ _ h => h) (Or.inl ⟨by kernel_rfl, ?_⟩) (by assumption) ?_
      rotate_left 1
      focus (intro wq hSw; (try dsimp only at hSw); obtain ⟨s0, s1, s2, s3, s4⟩ := hSw; go_simp; (try with_reducible rfl); done)
      try simp only [List.getElem_toArray, List.getElem_cons_zero, List.getElem_cons_succ, Act.put, List.setIfInBounds_toArray, List.set_cons_zero, List.set_cons_succ]
      refine wpAnyH_take (i := 9) (oi := _) (v := ?_) rfl (by kernel_rfl) (by kernel_rfl) (by kernel_rfl) (fun _ _ _ h => h) (Or.inl ⟨by kernel_rfl, ?_⟩) (by assumption) ?_
      rotate_left 1
      focus (intro wq hSw; (try dsimp only at hSw); obtain ⟨s0, s1, s2, s3, s4⟩ := hSw; go_simp; (try with_reducible rfl); done)
      try simp only [List.getElem_toArray, List.getElem_cons_zero, List.getElem_cons_succ, Act.put, List.setIfInBounds_toArray, List.set_cons_zero, List.set_cons_succ]
      refine wpAnyH_ready (rs := [10]) (by kernel_rfl) (by simp) ?_
      refine AllReadyH.cons (o := _) rfl (fun K hK => ?_) AllReadyH.nil
      rw [if_pos (by kernel_rfl)]
      go_simp
      (go_at_call 25; (with_reducible refine (rspans_same l o k m r c A B _ hHeld.2.2.2.2.out.2.1 hHeld.2.2.2.2.out.2.2).mono ?_); rintro e z1 ⟨rfl, qq⟩); have q := qq
      first | refine hK.out _ _ ?_ (fun hHeld => ?_) | (go_wp2_with fail; refine hK.out _ _ ?_ (fun hHeld => ?_))
      · exact ⟨cell_keep hHeld.1 qq, cell_keep hHeld.2.1 qq, cell_keep hHeld.2.2.1 qq, cell_keep hHeld.2.2.2.1 qq, Lib.hid ⟨hHeld.2.2.2.2.out.1.keep qq, hHeld.2.2.2.2.out.2.1.keep qq, hHeld.2.2.2.2.out.2.2.keep qq⟩⟩
      clear hK K
      try simp only [List.getElem_toArray, List.getElem_cons_zero, List.getElem_cons_succ, Act.put, List.setIfInBounds_toArray, List.set_cons_zero, List.set_cons_succ]
      refine wpAnyH_take (i := 11) (oi := _) (v := ?_) rfl (by kernel_rfl) (by kernel_rfl) (by kernel_rfl) (fun _ _ _ h => h) (Or.inl ⟨by kernel_rfl, ?_⟩) (by assumption) ?_
      rotate_left 1
      focus (intro wq hSw; (try dsimp only at hSw); obtain ⟨s0, s1, s2, s3, s4⟩ := hSw; go_simp; (try with_reducible rfl); done)
      try simp only [List.getElem_toArray, List.getElem_cons_zero, List.getElem_cons_succ, Act.put, List.setIfInBounds_toArray, List.set_cons_zero, List.set_cons_succ]
      refine wpAnyH_done (by kernel_rfl) ?_ _
      have HT3 := Lib.hid hHeld.2.2.2.2.out.1
      go_wp2
      go_roundw
      case rel => exact ⟨j + 1, by omega, by go_num, HT3⟩
      case measure => simp [intOf]; omega
    · obtain rfl : j = n := by omega
      go_upto_region 9 with fail
      clear e2 f2
      obtain ⟨wo, hwo⟩ : ∃ wo : World, wo = wr := ⟨_, rfl⟩
      rw [← hwo] at HT3 ⊢
      clear hwo
      have e3 := cell_blk HT3.out.xa 3
      go_loopw [6] (fun ii wr => ii = .int .i64 0 ∧ wr = wo) (fun ii _ => 0)
      case atStart => exact ⟨rfl, rfl⟩
      case round =>
        obtain ⟨rfl, rfl⟩ := hrel
        go_wp2
        go_returns
        exact ⟨rfl, HT3.out.bw⟩
end Go.Proofs.YtacpcokmgahjaaaDoor
