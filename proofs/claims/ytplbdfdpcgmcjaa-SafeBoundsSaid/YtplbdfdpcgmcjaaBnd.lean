/- The walk of the law SafeBounds: for every two bounds it answers true. -/
import Derived.Test.YtplbdfdpcgmcjaaRefE
namespace Go.Proofs.Ytplbdfdpcgmcjaa
set_option linter.unusedVariables false
set_option linter.unusedSimpArgs false
open Go.ChangeShapes Go.WideShapes Go.ChangeAt Go.RowKit

/-- The two bounds lie where the law laid them; below them nothing has turned. -/
structure Bnd (w : World) (i n j m : Int) (W : World) : Prop where
  cells : W.cell? ⟨w.heap.size, 0, none⟩ = some (.int .i8 i) ∧ W.cell? ⟨w.heap.size, 1, none⟩ = some (.int .i64 n) ∧ W.cell? ⟨w.heap.size + 1, 0, none⟩ = some (.int .i8 j) ∧ W.cell? ⟨w.heap.size + 1, 1, none⟩ = some (.int .i64 m)
  below : Below w.heap.size w W
  size : w.heap.size + 2 ≤ W.heap.size
theorem Bnd.keep {w W W' : World} {i n j m : Int} (h : Bnd w i n j m W) (b : Below W.heap.size W W') : Bnd w i n j m W' := by
  obtain ⟨⟨a0, a1, b0, b1⟩, B, z⟩ := h
  exact ⟨⟨ckeep a0 b, ckeep a1 b, ckeep b0 b, ckeep b1 b⟩, B.trans (b.mono (by omega)), Nat.le_trans z b.size⟩
theorem Bnd.al {w W : World} {i n j m : Int} (h : Bnd w i n j m W) (o : Obj) : Bnd w i n j m (W.alloc o) := h.keep ((Below.refl _ W).alloc (Nat.le_refl _) o)
theorem Bnd.dr {w W : World} {i n j m : Int} (h : Bnd w i n j m W) : Bnd w i n j m W.drew := h.keep (below_drewN' (Below.refl _ _) 1)
theorem Bnd.start (w : World) (i n j m : Int) : Bnd w i n j m ((w.alloc (.cells #[.int .i8 i, .int .i64 n] 31)).alloc (.cells #[.int .i8 j, .int .i64 m] 31)) :=
  ⟨⟨by go_simp, by go_simp, by go_simp, by go_simp⟩, by go_grown, by simp⟩
abbrev BndCall (w : World) (i n j m : Int) (f : Nat) (vs : Array Value) (r : Ending) : Prop := Hid (∀ W, Bnd w i n j m W → Calls Try.prog f vs W fun e w' => e = r ∧ Hid (Bnd w i n j m w') ∧ Hid (Below W.heap.size W w') ∧ w'.cell? ⟨w.heap.size, 0, none⟩ = some (.int .i8 i) ∧ w'.cell? ⟨w.heap.size, 1, none⟩ = some (.int .i64 n) ∧ w'.cell? ⟨w.heap.size + 1, 0, none⟩ = some (.int .i8 j) ∧ w'.cell? ⟨w.heap.size + 1, 1, none⟩ = some (.int .i64 m) ∧ (∀ o, (w'.alloc o).cell? ⟨w.heap.size, 0, none⟩ = some (.int .i8 i)) ∧ (∀ o, (w'.alloc o).cell? ⟨w.heap.size, 1, none⟩ = some (.int .i64 n)) ∧ (∀ o, (w'.alloc o).cell? ⟨w.heap.size + 1, 0, none⟩ = some (.int .i8 j)) ∧ (∀ o, (w'.alloc o).cell? ⟨w.heap.size + 1, 1, none⟩ = some (.int .i64 m)))
theorem bnd_call {w : World} {i n j m : Int} {f : Nat} {vs : Array Value} {r : Ending} (c : ∀ w, Calls Try.prog f vs w fun e w' => e = r ∧ Below w.heap.size w w') : BndCall w i n j m f vs r :=
  Lib.hid fun W h => (c W).mono fun e w' ⟨he, hb⟩ => ⟨he, Lib.hid (h.keep hb), Lib.hid hb, (h.keep hb).cells.1, (h.keep hb).cells.2.1, (h.keep hb).cells.2.2.1, (h.keep hb).cells.2.2.2, fun o => ((h.keep hb).al o).cells.1, fun o => ((h.keep hb).al o).cells.2.1, fun o => ((h.keep hb).al o).cells.2.2.1, fun o => ((h.keep hb).al o).cells.2.2.2⟩
theorem ck2 {W W' : World} {a : Addr} {v : Value} (h : W.cell? a = some v) (o : Obj) (b : Below (W.alloc o).heap.size (W.alloc o) W') : W'.cell? a = some v := ckeep (ckeep h ((Below.refl _ W).alloc (Nat.le_refl _) o)) b

set_option maxRecDepth 100000 in
set_option maxHeartbeats 20000000 in
theorem bnd_walk (i n j m : Int) (w : World) (x1 y1 e1 x2 y2 e2 : Int) (rb lb : Bool)
    (UX : BndCall w i n j m 22 #[.agg #[.int .i8 i, .int .i64 n], .agg #[.int .i8 j, .int .i64 m]] (.returned (.tuple #[.agg #[.int .i8 x1, .int .i64 y1], .int .i64 e1]))) (UY : BndCall w i n j m 23 #[.agg #[.int .i8 i, .int .i64 n], .agg #[.int .i8 j, .int .i64 m]] (.returned (.tuple #[.agg #[.int .i8 x1, .int .i64 y1], .int .i64 e1])))
    (VZ : BndCall w i n j m 24 #[.agg #[.int .i8 i, .int .i64 n]] (.returned (.tuple #[.agg #[.int .i8 x2, .int .i64 y2], .int .i64 e2]))) (VV : BndCall w i n j m 25 #[.agg #[.int .i8 i, .int .i64 n]] (.returned (.tuple #[.agg #[.int .i8 x2, .int .i64 y2], .int .i64 e2])))
    (RA : BndCall w i n j m 26 #[.agg #[.int .i8 i, .int .i64 n]] (.returned (.bool rb))) (RR : BndCall w i n j m 27 #[.agg #[.int .i8 i, .int .i64 n]] (.returned (.bool rb))) (LA : BndCall w i n j m 28 #[.agg #[.int .i8 i, .int .i64 n], .agg #[.int .i8 j, .int .i64 m]] (.returned (.bool lb))) (LR : BndCall w i n j m 29 #[.agg #[.int .i8 i, .int .i64 n], .agg #[.int .i8 j, .int .i64 m]] (.returned (.bool lb)))
    (AW : BndCall w i n j m 21 #[] (.returned (.bool true))) :
    Calls Try.prog 4 #[.agg #[.int .i8 i, .int .i64 n], .agg #[.int .i8 j, .int .i64 m]] w fun e w' => e = .returned (.bool true) ∧ Below w.heap.size w w' := by
  go_enter Try.func4, Try.ntmps4
  go_wp2_with (first
    | (go_at_call 22; (with_reducible refine (UX.out _ (by first | exact OO.out | exact OO.out.al _ | exact OO.out.dr | exact (OO.out.al _).dr | exact Bnd.start _ _ _ _ _)).mono ?_); rintro e wx ⟨rfl, OO, BBx, c0, c1, c2, c3, d0, d1, d2, d3⟩)
    | (go_at_call 23; (with_reducible refine (UY.out _ (by first | exact OO.out | exact OO.out.al _ | exact OO.out.dr | exact (OO.out.al _).dr | exact Bnd.start _ _ _ _ _)).mono ?_); rintro e wy ⟨rfl, OO, BBy, c0, c1, c2, c3, d0, d1, d2, d3⟩)
    | (go_at_call 24; (with_reducible refine (VZ.out _ (by first | exact OO.out | exact OO.out.al _ | exact OO.out.dr | exact (OO.out.al _).dr | exact Bnd.start _ _ _ _ _)).mono ?_); rintro e wz ⟨rfl, OO, BBz, c0, c1, c2, c3, d0, d1, d2, d3⟩)
    | (go_at_call 25; (with_reducible refine (VV.out _ (by first | exact OO.out | exact OO.out.al _ | exact OO.out.dr | exact (OO.out.al _).dr | exact Bnd.start _ _ _ _ _)).mono ?_); rintro e wv ⟨rfl, OO, BBv, c0, c1, c2, c3, d0, d1, d2, d3⟩))
  have hx0 : (wx.alloc (.cells #[.int .i8 x1, .int .i64 y1] 31)).cell? ⟨wx.heap.size, 0, none⟩ = some (.int .i8 x1) := by go_simp
  have hx0 := ck2 (ck2 (ckeep hx0 BBy.out) _ BBz.out) _ BBv.out
  have hy0 : (wy.alloc (.cells #[.int .i8 x1, .int .i64 y1] 31)).cell? ⟨wy.heap.size, 0, none⟩ = some (.int .i8 x1) := by go_simp
  have hy0 := ck2 (ckeep hy0 BBz.out) _ BBv.out
  have hx1 : (wx.alloc (.cells #[.int .i8 x1, .int .i64 y1] 31)).cell? ⟨wx.heap.size, 1, none⟩ = some (.int .i64 y1) := by go_simp
  have hx1 := ck2 (ck2 (ckeep hx1 BBy.out) _ BBz.out) _ BBv.out
  have hy1 : (wy.alloc (.cells #[.int .i8 x1, .int .i64 y1] 31)).cell? ⟨wy.heap.size, 1, none⟩ = some (.int .i64 y1) := by go_simp
  have hy1 := ck2 (ckeep hy1 BBz.out) _ BBv.out
  have hz0 : (wz.alloc (.cells #[.int .i8 x2, .int .i64 y2] 31)).cell? ⟨wz.heap.size, 0, none⟩ = some (.int .i8 x2) := by go_simp
  have hz0 := ckeep hz0 BBv.out
  have hz1 : (wz.alloc (.cells #[.int .i8 x2, .int .i64 y2] 31)).cell? ⟨wz.heap.size, 1, none⟩ = some (.int .i64 y2) := by go_simp
  have hz1 := ckeep hz1 BBv.out
  refine wp_region_held_drew (S := (fun W => W.cell? ⟨w.heap.size, 0, none⟩ = some (.int .i8 i) ∧ W.cell? ⟨w.heap.size, 1, none⟩ = some (.int .i64 n) ∧ W.cell? ⟨w.heap.size + 1, 0, none⟩ = some (.int .i8 j) ∧ W.cell? ⟨w.heap.size + 1, 1, none⟩ = some (.int .i64 m) ∧ W.cell? ⟨wx.heap.size, 0, none⟩ = some (.int .i8 x1) ∧ W.cell? ⟨wx.heap.size, 1, none⟩ = some (.int .i64 y1) ∧ W.cell? ⟨wy.heap.size, 0, none⟩ = some (.int .i8 x1) ∧ W.cell? ⟨wy.heap.size, 1, none⟩ = some (.int .i64 y1) ∧ W.cell? ⟨wz.heap.size, 0, none⟩ = some (.int .i8 x2) ∧ W.cell? ⟨wz.heap.size, 1, none⟩ = some (.int .i64 y2) ∧ W.cell? ⟨wv.heap.size, 0, none⟩ = some (.int .i8 x2) ∧ W.cell? ⟨wv.heap.size, 1, none⟩ = some (.int .i64 y2) ∧ Hid (Bnd w i n j m W))) (by kernel_rfl) ?_ (fun hHeld => ?_)
  · exact ⟨by go_simp, by go_simp, by go_simp, by go_simp, ckeep hx0 (((Below.refl _ wv).alloc (Nat.le_refl _) _).drew), ckeep hx1 (((Below.refl _ wv).alloc (Nat.le_refl _) _).drew), ckeep hy0 (((Below.refl _ wv).alloc (Nat.le_refl _) _).drew), ckeep hy1 (((Below.refl _ wv).alloc (Nat.le_refl _) _).drew), ckeep hz0 (((Below.refl _ wv).alloc (Nat.le_refl _) _).drew), ckeep hz1 (((Below.refl _ wv).alloc (Nat.le_refl _) _).drew), by go_simp, by go_simp, Lib.hid (OO.out.al _).dr⟩
  clear hx0 hx1 hy0 hy1 hz0 hz1
  refine wpAnyH_take (i := 0) (oi := _) (v := ?_) rfl (by kernel_rfl) (by kernel_rfl) (by kernel_rfl) (fun _ _ _ h => h) (Or.inl ⟨by kernel_rfl, ?_⟩) (by assumption) ?_
  rotate_left 1
  focus (intro wq hSw; (try dsimp only at hSw); obtain ⟨s0, s1, s2, s3, s4, s5, s6, s7, s8, s9, s10, s11, s12⟩ := hSw; go_simp; (try with_reducible rfl); done)
  try simp only [List.getElem_toArray, List.getElem_cons_zero, List.getElem_cons_succ, Act.put, List.setIfInBounds_toArray, List.set_cons_zero, List.set_cons_succ]
  refine wpAnyH_take (i := 1) (oi := _) (v := ?_) rfl (by kernel_rfl) (by kernel_rfl) (by kernel_rfl) (fun _ _ _ h => h) (Or.inl ⟨by kernel_rfl, ?_⟩) (by assumption) ?_
  rotate_left 1
  focus (intro wq hSw; (try dsimp only at hSw); obtain ⟨s0, s1, s2, s3, s4, s5, s6, s7, s8, s9, s10, s11, s12⟩ := hSw; go_simp; (try with_reducible rfl); done)
  try simp only [List.getElem_toArray, List.getElem_cons_zero, List.getElem_cons_succ, Act.put, List.setIfInBounds_toArray, List.set_cons_zero, List.set_cons_succ]
  refine wpAnyH_take (i := 2) (oi := _) (v := ?_) rfl (by kernel_rfl) (by kernel_rfl) (by kernel_rfl) (fun _ _ _ h => h) (Or.inl ⟨by kernel_rfl, ?_⟩) (by assumption) ?_
  rotate_left 1
  focus (intro wq hSw; (try dsimp only at hSw); obtain ⟨s0, s1, s2, s3, s4, s5, s6, s7, s8, s9, s10, s11, s12⟩ := hSw; go_simp; (try with_reducible rfl); done)
  try simp only [List.getElem_toArray, List.getElem_cons_zero, List.getElem_cons_succ, Act.put, List.setIfInBounds_toArray, List.set_cons_zero, List.set_cons_succ]
  refine wpAnyH_take (i := 3) (oi := _) (v := ?_) rfl (by kernel_rfl) (by kernel_rfl) (by kernel_rfl) (fun _ _ _ h => h) (Or.inl ⟨by kernel_rfl, ?_⟩) (by assumption) ?_
  rotate_left 1
  focus (intro wq hSw; (try dsimp only at hSw); obtain ⟨s0, s1, s2, s3, s4, s5, s6, s7, s8, s9, s10, s11, s12⟩ := hSw; go_simp; (try with_reducible rfl); done)
  try simp only [List.getElem_toArray, List.getElem_cons_zero, List.getElem_cons_succ, Act.put, List.setIfInBounds_toArray, List.set_cons_zero, List.set_cons_succ]
  refine wpAnyH_take (i := 4) (oi := _) (v := ?_) rfl (by kernel_rfl) (by kernel_rfl) (by kernel_rfl) (fun _ _ _ h => h) (Or.inl ⟨by kernel_rfl, ?_⟩) (by assumption) ?_
  rotate_left 1
  focus (intro wq hSw; (try dsimp only at hSw); obtain ⟨s0, s1, s2, s3, s4, s5, s6, s7, s8, s9, s10, s11, s12⟩ := hSw; go_simp; (try with_reducible rfl); done)
  try simp only [List.getElem_toArray, List.getElem_cons_zero, List.getElem_cons_succ, Act.put, List.setIfInBounds_toArray, List.set_cons_zero, List.set_cons_succ]
  refine wpAnyH_take (i := 5) (oi := _) (v := ?_) rfl (by kernel_rfl) (by kernel_rfl) (by kernel_rfl) (fun _ _ _ h => h) (Or.inl ⟨by kernel_rfl, ?_⟩) (by assumption) ?_
  rotate_left 1
  focus (intro wq hSw; (try dsimp only at hSw); obtain ⟨s0, s1, s2, s3, s4, s5, s6, s7, s8, s9, s10, s11, s12⟩ := hSw; go_simp; (try with_reducible rfl); done)
  try simp only [List.getElem_toArray, List.getElem_cons_zero, List.getElem_cons_succ, Act.put, List.setIfInBounds_toArray, List.set_cons_zero, List.set_cons_succ]
  refine wpAnyH_take (i := 6) (oi := _) (v := ?_) rfl (by kernel_rfl) (by kernel_rfl) (by kernel_rfl) (fun _ _ _ h => h) (Or.inl ⟨by kernel_rfl, ?_⟩) (by assumption) ?_
  rotate_left 1
  focus (intro wq hSw; (try dsimp only at hSw); obtain ⟨s0, s1, s2, s3, s4, s5, s6, s7, s8, s9, s10, s11, s12⟩ := hSw; go_simp; (try with_reducible rfl); done)
  try simp only [List.getElem_toArray, List.getElem_cons_zero, List.getElem_cons_succ, Act.put, List.setIfInBounds_toArray, List.set_cons_zero, List.set_cons_succ]
  refine wpAnyH_take (i := 7) (oi := _) (v := ?_) rfl (by kernel_rfl) (by kernel_rfl) (by kernel_rfl) (fun _ _ _ h => h) (Or.inl ⟨by kernel_rfl, ?_⟩) (by assumption) ?_
  rotate_left 1
  focus (intro wq hSw; (try dsimp only at hSw); obtain ⟨s0, s1, s2, s3, s4, s5, s6, s7, s8, s9, s10, s11, s12⟩ := hSw; go_simp; (try with_reducible rfl); done)
  try simp only [List.getElem_toArray, List.getElem_cons_zero, List.getElem_cons_succ, Act.put, List.setIfInBounds_toArray, List.set_cons_zero, List.set_cons_succ]
  refine wpAnyH_take (i := 8) (oi := _) (v := ?_) rfl (by kernel_rfl) (by kernel_rfl) (by kernel_rfl) (fun _ _ _ h => h) (Or.inl ⟨by kernel_rfl, ?_⟩) (by assumption) ?_
  rotate_left 1
  focus (intro wq hSw; (try dsimp only at hSw); obtain ⟨s0, s1, s2, s3, s4, s5, s6, s7, s8, s9, s10, s11, s12⟩ := hSw; go_simp; (try with_reducible rfl); done)
  try simp only [List.getElem_toArray, List.getElem_cons_zero, List.getElem_cons_succ, Act.put, List.setIfInBounds_toArray, List.set_cons_zero, List.set_cons_succ]
  refine wpAnyH_take (i := 9) (oi := _) (v := ?_) rfl (by kernel_rfl) (by kernel_rfl) (by kernel_rfl) (fun _ _ _ h => h) (Or.inl ⟨by kernel_rfl, ?_⟩) (by assumption) ?_
  rotate_left 1
  focus (intro wq hSw; (try dsimp only at hSw); obtain ⟨s0, s1, s2, s3, s4, s5, s6, s7, s8, s9, s10, s11, s12⟩ := hSw; go_simp; (try with_reducible rfl); done)
  try simp only [List.getElem_toArray, List.getElem_cons_zero, List.getElem_cons_succ, Act.put, List.setIfInBounds_toArray, List.set_cons_zero, List.set_cons_succ]
  refine wpAnyH_take (i := 10) (oi := _) (v := ?_) rfl (by kernel_rfl) (by kernel_rfl) (by kernel_rfl) (fun _ _ _ h => h) (Or.inl ⟨by kernel_rfl, ?_⟩) (by assumption) ?_
  rotate_left 1
  focus (intro wq hSw; (try dsimp only at hSw); obtain ⟨s0, s1, s2, s3, s4, s5, s6, s7, s8, s9, s10, s11, s12⟩ := hSw; go_simp; (try with_reducible rfl); done)
  try simp only [List.getElem_toArray, List.getElem_cons_zero, List.getElem_cons_succ, Act.put, List.setIfInBounds_toArray, List.set_cons_zero, List.set_cons_succ]
  refine wpAnyH_take (i := 11) (oi := _) (v := ?_) rfl (by kernel_rfl) (by kernel_rfl) (by kernel_rfl) (fun _ _ _ h => h) (Or.inl ⟨by kernel_rfl, ?_⟩) (by assumption) ?_
  rotate_left 1
  focus (intro wq hSw; (try dsimp only at hSw); obtain ⟨s0, s1, s2, s3, s4, s5, s6, s7, s8, s9, s10, s11, s12⟩ := hSw; go_simp; (try with_reducible rfl); done)
  try simp only [List.getElem_toArray, List.getElem_cons_zero, List.getElem_cons_succ, Act.put, List.setIfInBounds_toArray, List.set_cons_zero, List.set_cons_succ]
  refine wpAnyH_take (i := 12) (oi := _) (v := ?_) rfl (by kernel_rfl) (by kernel_rfl) (by kernel_rfl) (fun _ _ _ h => h) (Or.inl ⟨by kernel_rfl, ?_⟩) (by assumption) ?_
  rotate_left 1
  focus (intro wq hSw; (try dsimp only at hSw); obtain ⟨s0, s1, s2, s3, s4, s5, s6, s7, s8, s9, s10, s11, s12⟩ := hSw; go_simp; (try with_reducible rfl); done)
  try simp only [List.getElem_toArray, List.getElem_cons_zero, List.getElem_cons_succ, Act.put, List.setIfInBounds_toArray, List.set_cons_zero, List.set_cons_succ]
  refine wpAnyH_take (i := 13) (oi := _) (v := ?_) rfl (by kernel_rfl) (by kernel_rfl) (by kernel_rfl) (fun _ _ _ h => h) (Or.inl ⟨by kernel_rfl, ?_⟩) (by assumption) ?_
  rotate_left 1
  focus (intro wq hSw; (try dsimp only at hSw); obtain ⟨s0, s1, s2, s3, s4, s5, s6, s7, s8, s9, s10, s11, s12⟩ := hSw; go_simp; (try with_reducible rfl); done)
  try simp only [List.getElem_toArray, List.getElem_cons_zero, List.getElem_cons_succ, Act.put, List.setIfInBounds_toArray, List.set_cons_zero, List.set_cons_succ]
  refine wpAnyH_take (i := 14) (oi := _) (v := ?_) rfl (by kernel_rfl) (by kernel_rfl) (by kernel_rfl) (fun _ _ _ h => h) (Or.inl ⟨by kernel_rfl, ?_⟩) (by assumption) ?_
  rotate_left 1
  focus (intro wq hSw; (try dsimp only at hSw); obtain ⟨s0, s1, s2, s3, s4, s5, s6, s7, s8, s9, s10, s11, s12⟩ := hSw; go_simp; (try with_reducible rfl); done)
  try simp only [List.getElem_toArray, List.getElem_cons_zero, List.getElem_cons_succ, Act.put, List.setIfInBounds_toArray, List.set_cons_zero, List.set_cons_succ]
  refine wpAnyH_take (i := 15) (oi := _) (v := ?_) rfl (by kernel_rfl) (by kernel_rfl) (by kernel_rfl) (fun _ _ _ h => h) (Or.inl ⟨by kernel_rfl, ?_⟩) (by assumption) ?_
  rotate_left 1
  focus (intro wq hSw; (try dsimp only at hSw); obtain ⟨s0, s1, s2, s3, s4, s5, s6, s7, s8, s9, s10, s11, s12⟩ := hSw; go_simp; (try with_reducible rfl); done)
  try simp only [List.getElem_toArray, List.getElem_cons_zero, List.getElem_cons_succ, Act.put, List.setIfInBounds_toArray, List.set_cons_zero, List.set_cons_succ]
  refine wpAnyH_take (i := 16) (oi := _) (v := ?_) rfl (by kernel_rfl) (by kernel_rfl) (by kernel_rfl) (fun _ _ _ h => h) (Or.inl ⟨by kernel_rfl, ?_⟩) (by assumption) ?_
  rotate_left 1
  focus (intro wq hSw; (try dsimp only at hSw); obtain ⟨s0, s1, s2, s3, s4, s5, s6, s7, s8, s9, s10, s11, s12⟩ := hSw; go_simp; (try with_reducible rfl); done)
  try simp only [List.getElem_toArray, List.getElem_cons_zero, List.getElem_cons_succ, Act.put, List.setIfInBounds_toArray, List.set_cons_zero, List.set_cons_succ]
  refine wpAnyH_take (i := 17) (oi := _) (v := ?_) rfl (by kernel_rfl) (by kernel_rfl) (by kernel_rfl) (fun _ _ _ h => h) (Or.inl ⟨by kernel_rfl, ?_⟩) (by assumption) ?_
  rotate_left 1
  focus (intro wq hSw; (try dsimp only at hSw); obtain ⟨s0, s1, s2, s3, s4, s5, s6, s7, s8, s9, s10, s11, s12⟩ := hSw; go_simp; (try with_reducible rfl); done)
  try simp only [List.getElem_toArray, List.getElem_cons_zero, List.getElem_cons_succ, Act.put, List.setIfInBounds_toArray, List.set_cons_zero, List.set_cons_succ]
  refine wpAnyH_take (i := 18) (oi := _) (v := ?_) rfl (by kernel_rfl) (by kernel_rfl) (by kernel_rfl) (fun _ _ _ h => h) (Or.inl ⟨by kernel_rfl, ?_⟩) (by assumption) ?_
  rotate_left 1
  focus (intro wq hSw; (try dsimp only at hSw); obtain ⟨s0, s1, s2, s3, s4, s5, s6, s7, s8, s9, s10, s11, s12⟩ := hSw; go_simp; (try with_reducible rfl); done)
  try simp only [List.getElem_toArray, List.getElem_cons_zero, List.getElem_cons_succ, Act.put, List.setIfInBounds_toArray, List.set_cons_zero, List.set_cons_succ]
  refine wpAnyH_take (i := 19) (oi := _) (v := ?_) rfl (by kernel_rfl) (by kernel_rfl) (by kernel_rfl) (fun _ _ _ h => h) (Or.inl ⟨by kernel_rfl, ?_⟩) (by assumption) ?_
  rotate_left 1
  focus (intro wq hSw; (try dsimp only at hSw); obtain ⟨s0, s1, s2, s3, s4, s5, s6, s7, s8, s9, s10, s11, s12⟩ := hSw; go_simp; (try with_reducible rfl); done)
  try simp only [List.getElem_toArray, List.getElem_cons_zero, List.getElem_cons_succ, Act.put, List.setIfInBounds_toArray, List.set_cons_zero, List.set_cons_succ]
  refine wpAnyH_take (i := 21) (oi := _) (v := ?_) rfl (by kernel_rfl) (by kernel_rfl) (by kernel_rfl) (fun _ _ _ h => h) (Or.inl ⟨by kernel_rfl, ?_⟩) (by assumption) ?_
  rotate_left 1
  focus (intro wq hSw; (try dsimp only at hSw); obtain ⟨s0, s1, s2, s3, s4, s5, s6, s7, s8, s9, s10, s11, s12⟩ := hSw; go_simp; (try with_reducible rfl); done)
  try simp only [List.getElem_toArray, List.getElem_cons_zero, List.getElem_cons_succ, Act.put, List.setIfInBounds_toArray, List.set_cons_zero, List.set_cons_succ]
  refine wpAnyH_ready (rs := [20]) (by kernel_rfl) (by simp) ?_
  refine AllReadyH.cons (o := _) rfl (fun K hK => ?_) AllReadyH.nil
  rw [if_pos (by kernel_rfl)]
  go_simp
  (go_at_call 26; (with_reducible refine (RA.out _ (by first | exact OO.out | exact OO.out.al _ | exact OO.out.dr | exact (OO.out.al _).dr | exact Bnd.start _ _ _ _ _)).mono ?_); rintro e w1 ⟨rfl, OO, BB, c0, c1, c2, c3, d0, d1, d2, d3⟩)
  first | refine hK.out _ _ ?_ (fun hHeld => ?_) | (go_wp2_with fail; refine hK.out _ _ ?_ (fun hHeld => ?_))
  · exact ⟨by go_simp, by go_simp, by go_simp, by go_simp, ckeep hHeld.2.2.2.2.1 BB.out, ckeep hHeld.2.2.2.2.2.1 BB.out, ckeep hHeld.2.2.2.2.2.2.1 BB.out, ckeep hHeld.2.2.2.2.2.2.2.1 BB.out, ckeep hHeld.2.2.2.2.2.2.2.2.1 BB.out, ckeep hHeld.2.2.2.2.2.2.2.2.2.1 BB.out, ckeep hHeld.2.2.2.2.2.2.2.2.2.2.1 BB.out, ckeep hHeld.2.2.2.2.2.2.2.2.2.2.2.1 BB.out, OO⟩
  clear hK K
  try simp only [List.getElem_toArray, List.getElem_cons_zero, List.getElem_cons_succ, Act.put, List.setIfInBounds_toArray, List.set_cons_zero, List.set_cons_succ]
  refine wpAnyH_ready (rs := [22]) (by kernel_rfl) (by simp) ?_
  refine AllReadyH.cons (o := _) rfl (fun K hK => ?_) AllReadyH.nil
  rw [if_pos (by kernel_rfl)]
  go_simp
  (go_at_call 27; (with_reducible refine (RR.out _ (by first | exact OO.out | exact OO.out.al _ | exact OO.out.dr | exact (OO.out.al _).dr | exact Bnd.start _ _ _ _ _)).mono ?_); rintro e w1 ⟨rfl, OO, BB, c0, c1, c2, c3, d0, d1, d2, d3⟩)
  first | refine hK.out _ _ ?_ (fun hHeld => ?_) | (go_wp2_with fail; refine hK.out _ _ ?_ (fun hHeld => ?_))
  · exact ⟨by go_simp, by go_simp, by go_simp, by go_simp, ckeep hHeld.2.2.2.2.1 BB.out, ckeep hHeld.2.2.2.2.2.1 BB.out, ckeep hHeld.2.2.2.2.2.2.1 BB.out, ckeep hHeld.2.2.2.2.2.2.2.1 BB.out, ckeep hHeld.2.2.2.2.2.2.2.2.1 BB.out, ckeep hHeld.2.2.2.2.2.2.2.2.2.1 BB.out, ckeep hHeld.2.2.2.2.2.2.2.2.2.2.1 BB.out, ckeep hHeld.2.2.2.2.2.2.2.2.2.2.2.1 BB.out, OO⟩
  clear hK K
  try simp only [List.getElem_toArray, List.getElem_cons_zero, List.getElem_cons_succ, Act.put, List.setIfInBounds_toArray, List.set_cons_zero, List.set_cons_succ]
  refine wpAnyH_take (i := 23) (oi := _) (v := ?_) rfl (by kernel_rfl) (by kernel_rfl) (by kernel_rfl) (fun _ _ _ h => h) (Or.inl ⟨by kernel_rfl, ?_⟩) (by assumption) ?_
  rotate_left 1
  focus (intro wq hSw; (try dsimp only at hSw); obtain ⟨s0, s1, s2, s3, s4, s5, s6, s7, s8, s9, s10, s11, s12⟩ := hSw; go_simp; (try with_reducible rfl); done)
  try simp only [List.getElem_toArray, List.getElem_cons_zero, List.getElem_cons_succ, Act.put, List.setIfInBounds_toArray, List.set_cons_zero, List.set_cons_succ]
  refine wpAnyH_take (i := 24) (oi := _) (v := ?_) rfl (by kernel_rfl) (by kernel_rfl) (by kernel_rfl) (fun _ _ _ h => h) (Or.inl ⟨by kernel_rfl, ?_⟩) (by assumption) ?_
  rotate_left 1
  focus (intro wq hSw; (try dsimp only at hSw); obtain ⟨s0, s1, s2, s3, s4, s5, s6, s7, s8, s9, s10, s11, s12⟩ := hSw; go_simp; (try with_reducible rfl); done)
  try simp only [List.getElem_toArray, List.getElem_cons_zero, List.getElem_cons_succ, Act.put, List.setIfInBounds_toArray, List.set_cons_zero, List.set_cons_succ]
  refine wpAnyH_take (i := 25) (oi := _) (v := ?_) rfl (by kernel_rfl) (by kernel_rfl) (by kernel_rfl) (fun _ _ _ h => h) (Or.inl ⟨by kernel_rfl, ?_⟩) (by assumption) ?_
  rotate_left 1
  focus (intro wq hSw; (try dsimp only at hSw); obtain ⟨s0, s1, s2, s3, s4, s5, s6, s7, s8, s9, s10, s11, s12⟩ := hSw; go_simp; (try with_reducible rfl); done)
  try simp only [List.getElem_toArray, List.getElem_cons_zero, List.getElem_cons_succ, Act.put, List.setIfInBounds_toArray, List.set_cons_zero, List.set_cons_succ]
  refine wpAnyH_take (i := 26) (oi := _) (v := ?_) rfl (by kernel_rfl) (by kernel_rfl) (by kernel_rfl) (fun _ _ _ h => h) (Or.inl ⟨by kernel_rfl, ?_⟩) (by assumption) ?_
  rotate_left 1
  focus (intro wq hSw; (try dsimp only at hSw); obtain ⟨s0, s1, s2, s3, s4, s5, s6, s7, s8, s9, s10, s11, s12⟩ := hSw; go_simp; (try with_reducible rfl); done)
  try simp only [List.getElem_toArray, List.getElem_cons_zero, List.getElem_cons_succ, Act.put, List.setIfInBounds_toArray, List.set_cons_zero, List.set_cons_succ]
  refine wpAnyH_take (i := 27) (oi := _) (v := ?_) rfl (by kernel_rfl) (by kernel_rfl) (by kernel_rfl) (fun _ _ _ h => h) (Or.inl ⟨by kernel_rfl, ?_⟩) (by assumption) ?_
  rotate_left 1
  focus (intro wq hSw; (try dsimp only at hSw); obtain ⟨s0, s1, s2, s3, s4, s5, s6, s7, s8, s9, s10, s11, s12⟩ := hSw; go_simp; (try with_reducible rfl); done)
  try simp only [List.getElem_toArray, List.getElem_cons_zero, List.getElem_cons_succ, Act.put, List.setIfInBounds_toArray, List.set_cons_zero, List.set_cons_succ]
  refine wpAnyH_take (i := 29) (oi := _) (v := ?_) rfl (by kernel_rfl) (by kernel_rfl) (by kernel_rfl) (fun _ _ _ h => h) (Or.inl ⟨by kernel_rfl, ?_⟩) (by assumption) ?_
  rotate_left 1
  focus (intro wq hSw; (try dsimp only at hSw); obtain ⟨s0, s1, s2, s3, s4, s5, s6, s7, s8, s9, s10, s11, s12⟩ := hSw; go_simp; (try with_reducible rfl); done)
  try simp only [List.getElem_toArray, List.getElem_cons_zero, List.getElem_cons_succ, Act.put, List.setIfInBounds_toArray, List.set_cons_zero, List.set_cons_succ]
  refine wpAnyH_take (i := 30) (oi := _) (v := ?_) rfl (by kernel_rfl) (by kernel_rfl) (by kernel_rfl) (fun _ _ _ h => h) (Or.inl ⟨by kernel_rfl, ?_⟩) (by assumption) ?_
  rotate_left 1
  focus (intro wq hSw; (try dsimp only at hSw); obtain ⟨s0, s1, s2, s3, s4, s5, s6, s7, s8, s9, s10, s11, s12⟩ := hSw; go_simp; (try with_reducible rfl); done)
  try simp only [List.getElem_toArray, List.getElem_cons_zero, List.getElem_cons_succ, Act.put, List.setIfInBounds_toArray, List.set_cons_zero, List.set_cons_succ]
  refine wpAnyH_ready (rs := [28]) (by kernel_rfl) (by simp) ?_
  refine AllReadyH.cons (o := _) rfl (fun K hK => ?_) AllReadyH.nil
  rw [if_pos (by kernel_rfl)]
  go_simp
  (go_at_call 28; (with_reducible refine (LA.out _ (by first | exact OO.out | exact OO.out.al _ | exact OO.out.dr | exact (OO.out.al _).dr | exact Bnd.start _ _ _ _ _)).mono ?_); rintro e w1 ⟨rfl, OO, BB, c0, c1, c2, c3, d0, d1, d2, d3⟩)
  first | refine hK.out _ _ ?_ (fun hHeld => ?_) | (go_wp2_with fail; refine hK.out _ _ ?_ (fun hHeld => ?_))
  · exact ⟨by go_simp, by go_simp, by go_simp, by go_simp, ckeep hHeld.2.2.2.2.1 BB.out, ckeep hHeld.2.2.2.2.2.1 BB.out, ckeep hHeld.2.2.2.2.2.2.1 BB.out, ckeep hHeld.2.2.2.2.2.2.2.1 BB.out, ckeep hHeld.2.2.2.2.2.2.2.2.1 BB.out, ckeep hHeld.2.2.2.2.2.2.2.2.2.1 BB.out, ckeep hHeld.2.2.2.2.2.2.2.2.2.2.1 BB.out, ckeep hHeld.2.2.2.2.2.2.2.2.2.2.2.1 BB.out, OO⟩
  clear hK K
  try simp only [List.getElem_toArray, List.getElem_cons_zero, List.getElem_cons_succ, Act.put, List.setIfInBounds_toArray, List.set_cons_zero, List.set_cons_succ]
  refine wpAnyH_ready (rs := [31]) (by kernel_rfl) (by simp) ?_
  refine AllReadyH.cons (o := _) rfl (fun K hK => ?_) AllReadyH.nil
  rw [if_pos (by kernel_rfl)]
  go_simp
  (go_at_call 29; (with_reducible refine (LR.out _ (by first | exact OO.out | exact OO.out.al _ | exact OO.out.dr | exact (OO.out.al _).dr | exact Bnd.start _ _ _ _ _)).mono ?_); rintro e w1 ⟨rfl, OO, BB, c0, c1, c2, c3, d0, d1, d2, d3⟩)
  first | refine hK.out _ _ ?_ (fun hHeld => ?_) | (go_wp2_with fail; refine hK.out _ _ ?_ (fun hHeld => ?_))
  · exact ⟨by go_simp, by go_simp, by go_simp, by go_simp, ckeep hHeld.2.2.2.2.1 BB.out, ckeep hHeld.2.2.2.2.2.1 BB.out, ckeep hHeld.2.2.2.2.2.2.1 BB.out, ckeep hHeld.2.2.2.2.2.2.2.1 BB.out, ckeep hHeld.2.2.2.2.2.2.2.2.1 BB.out, ckeep hHeld.2.2.2.2.2.2.2.2.2.1 BB.out, ckeep hHeld.2.2.2.2.2.2.2.2.2.2.1 BB.out, ckeep hHeld.2.2.2.2.2.2.2.2.2.2.2.1 BB.out, OO⟩
  clear hK K
  try simp only [List.getElem_toArray, List.getElem_cons_zero, List.getElem_cons_succ, Act.put, List.setIfInBounds_toArray, List.set_cons_zero, List.set_cons_succ]
  refine wpAnyH_take (i := 32) (oi := _) (v := ?_) rfl (by kernel_rfl) (by kernel_rfl) (by kernel_rfl) (fun _ _ _ h => h) (Or.inl ⟨by kernel_rfl, ?_⟩) (by assumption) ?_
  rotate_left 1
  focus (intro wq hSw; (try dsimp only at hSw); obtain ⟨s0, s1, s2, s3, s4, s5, s6, s7, s8, s9, s10, s11, s12⟩ := hSw; go_simp; (try with_reducible rfl); done)
  try simp only [List.getElem_toArray, List.getElem_cons_zero, List.getElem_cons_succ, Act.put, List.setIfInBounds_toArray, List.set_cons_zero, List.set_cons_succ]
  refine wpAnyH_take (i := 33) (oi := _) (v := ?_) rfl (by kernel_rfl) (by kernel_rfl) (by kernel_rfl) (fun _ _ _ h => h) (Or.inl ⟨by kernel_rfl, ?_⟩) (by assumption) ?_
  rotate_left 1
  focus (intro wq hSw; (try dsimp only at hSw); obtain ⟨s0, s1, s2, s3, s4, s5, s6, s7, s8, s9, s10, s11, s12⟩ := hSw; go_simp; (try with_reducible rfl); done)
  try simp only [List.getElem_toArray, List.getElem_cons_zero, List.getElem_cons_succ, Act.put, List.setIfInBounds_toArray, List.set_cons_zero, List.set_cons_succ]
  refine wpAnyH_take (i := 34) (oi := _) (v := ?_) rfl (by kernel_rfl) (by kernel_rfl) (by kernel_rfl) (fun _ _ _ h => h) (Or.inl ⟨by kernel_rfl, ?_⟩) (by assumption) ?_
  rotate_left 1
  focus (intro wq hSw; (try dsimp only at hSw); obtain ⟨s0, s1, s2, s3, s4, s5, s6, s7, s8, s9, s10, s11, s12⟩ := hSw; go_simp; (try with_reducible rfl); done)
  try simp only [List.getElem_toArray, List.getElem_cons_zero, List.getElem_cons_succ, Act.put, List.setIfInBounds_toArray, List.set_cons_zero, List.set_cons_succ]
  refine wpAnyH_ready (rs := [35]) (by kernel_rfl) (by simp) ?_
  refine AllReadyH.cons (o := _) rfl (fun K hK => ?_) AllReadyH.nil
  rw [if_pos (by kernel_rfl)]
  go_simp
  (go_at_call 21; (with_reducible refine (AW.out _ (by first | exact OO.out | exact OO.out.al _ | exact OO.out.dr | exact (OO.out.al _).dr | exact Bnd.start _ _ _ _ _)).mono ?_); rintro e w1 ⟨rfl, OO, BB, c0, c1, c2, c3, d0, d1, d2, d3⟩)
  first | refine hK.out _ _ ?_ (fun hHeld => ?_) | (go_wp2_with fail; refine hK.out _ _ ?_ (fun hHeld => ?_))
  · exact ⟨by go_simp, by go_simp, by go_simp, by go_simp, ckeep hHeld.2.2.2.2.1 BB.out, ckeep hHeld.2.2.2.2.2.1 BB.out, ckeep hHeld.2.2.2.2.2.2.1 BB.out, ckeep hHeld.2.2.2.2.2.2.2.1 BB.out, ckeep hHeld.2.2.2.2.2.2.2.2.1 BB.out, ckeep hHeld.2.2.2.2.2.2.2.2.2.1 BB.out, ckeep hHeld.2.2.2.2.2.2.2.2.2.2.1 BB.out, ckeep hHeld.2.2.2.2.2.2.2.2.2.2.2.1 BB.out, OO⟩
  clear hK K
  try simp only [List.getElem_toArray, List.getElem_cons_zero, List.getElem_cons_succ, Act.put, List.setIfInBounds_toArray, List.set_cons_zero, List.set_cons_succ]
  refine wpAnyH_take (i := 36) (oi := _) (v := ?_) rfl (by kernel_rfl) (by kernel_rfl) (by kernel_rfl) (fun _ _ _ h => h) (Or.inl ⟨by kernel_rfl, ?_⟩) (by assumption) ?_
  rotate_left 1
  focus (intro wq hSw; (try dsimp only at hSw); obtain ⟨s0, s1, s2, s3, s4, s5, s6, s7, s8, s9, s10, s11, s12⟩ := hSw; go_simp; (try with_reducible rfl); done)
  try simp only [List.getElem_toArray, List.getElem_cons_zero, List.getElem_cons_succ, Act.put, List.setIfInBounds_toArray, List.set_cons_zero, List.set_cons_succ]
  refine wpAnyH_take (i := 37) (oi := _) (v := ?_) rfl (by kernel_rfl) (by kernel_rfl) (by kernel_rfl) (fun _ _ _ h => h) (Or.inl ⟨by kernel_rfl, ?_⟩) (by assumption) ?_
  rotate_left 1
  focus (intro wq hSw; (try dsimp only at hSw); obtain ⟨s0, s1, s2, s3, s4, s5, s6, s7, s8, s9, s10, s11, s12⟩ := hSw; go_simp; (try with_reducible rfl); done)
  try simp only [List.getElem_toArray, List.getElem_cons_zero, List.getElem_cons_succ, Act.put, List.setIfInBounds_toArray, List.set_cons_zero, List.set_cons_succ]
  refine wpAnyH_done (by kernel_rfl) ?_ _
  go_wp2
  go_returns
  exact ⟨rfl, OO.out.below⟩

theorem sums_same (i n j m : Int) (hn1 : -9223372036854775808 ≤ n) (hn2 : n ≤ 9223372036854775807) (hm1 : -9223372036854775808 ≤ m) (hm2 : m ≤ 9223372036854775807) :
    ∃ x y e, (∀ w, Calls Try.prog 22 #[.agg #[.int .i8 i, .int .i64 n], .agg #[.int .i8 j, .int .i64 m]] w fun e' w' => e' = .returned (.tuple #[.agg #[.int .i8 x, .int .i64 y], .int .i64 e]) ∧ Below w.heap.size w w') ∧
      (∀ w, Calls Try.prog 23 #[.agg #[.int .i8 i, .int .i64 n], .agg #[.int .i8 j, .int .i64 m]] w fun e' w' => e' = .returned (.tuple #[.agg #[.int .i8 x, .int .i64 y], .int .i64 e]) ∧ Below w.heap.size w w') := by
  by_cases bad : rightB i n = false ∨ rightB j m = false
  · exact ⟨_, _, _, fun w => sum_arg i n j m w bad, fun w => rsum_arg i n j m w bad⟩
  · have ra : rightB i n = true := by
      cases h : rightB i n
      · exact absurd (.inl h) bad
      · rfl
    have rb : rightB j m = true := by
      cases h : rightB j m
      · exact absurd (.inr h) bad
      · rfl
    clear bad
    rw [rightB_iff] at ra rb
    rcases ra with rfl | ⟨rfl | rfl, rfl⟩
    · rcases rb with rfl | ⟨rfl | rfl, rfl⟩
      · by_cases c : -9223372036854775808 ≤ n + m ∧ n + m ≤ 9223372036854775807
        · exact ⟨_, _, _, fun w => sum_zz_ok n m w hn1 hn2 hm1 hm2 c.1 c.2, rsum_zz n m _ _ fun w => (radd_any n m hn1 hn2 hm1 hm2).1 w c.1 c.2⟩
        · exact ⟨_, _, _, fun w => sum_zz_over n m w hn1 hn2 hm1 hm2 (by omega), rsum_zz n m _ _ fun w => (radd_any n m hn1 hn2 hm1 hm2).2 w (by omega)⟩
      · exact ⟨_, _, _, fun w => sum_zp n w, fun w => rsum_zp n w⟩
      · exact ⟨_, _, _, fun w => sum_zm n w, fun w => rsum_zm n w⟩
    · rcases rb with rfl | ⟨rfl | rfl, rfl⟩
      · exact ⟨_, _, _, fun w => sum_pz m w, fun w => rsum_pz m w⟩
      · exact ⟨_, _, _, fun w => sum_pp w, fun w => rsum_pp w⟩
      · exact ⟨_, _, _, fun w => sum_pm w, fun w => rsum_pm w⟩
    · rcases rb with rfl | ⟨rfl | rfl, rfl⟩
      · exact ⟨_, _, _, fun w => sum_mz m w, fun w => rsum_mz m w⟩
      · exact ⟨_, _, _, fun w => sum_mp w, fun w => rsum_mp w⟩
      · exact ⟨_, _, _, fun w => sum_mm w, fun w => rsum_mm w⟩
theorem minus_same (i n : Int) (hn1 : -9223372036854775808 ≤ n) (hn2 : n ≤ 9223372036854775807) :
    ∃ x y e, (∀ w, Calls Try.prog 24 #[.agg #[.int .i8 i, .int .i64 n]] w fun e' w' => e' = .returned (.tuple #[.agg #[.int .i8 x, .int .i64 y], .int .i64 e]) ∧ Below w.heap.size w w') ∧
      (∀ w, Calls Try.prog 25 #[.agg #[.int .i8 i, .int .i64 n]] w fun e' w' => e' = .returned (.tuple #[.agg #[.int .i8 x, .int .i64 y], .int .i64 e]) ∧ Below w.heap.size w w') := by
  cases ra : rightB i n
  · exact ⟨_, _, _, fun w => minus_arg i n w ra, fun w => rminus_arg i n ra w⟩
  · have r := (rightB_iff i n).1 ra
    rcases r with rfl | ⟨rfl | rfl, rfl⟩
    · by_cases c : n = -9223372036854775808
      · subst c
        exact ⟨_, _, _, fun w => minus_over 0 w ra, rminus_z _ _ _ fun w => (rsub_any 0 (-9223372036854775808) (by omega) (by omega) (by omega) (by omega)).2 w (by omega)⟩
      · have A := fun w => (rsub_any 0 n (by omega) (by omega) hn1 hn2).1 w (by omega) (by omega)
        rw [show (0 : Int) - n = -n by omega] at A
        exact ⟨_, _, _, fun w => minus_ok 0 n w ra (by omega) (by omega) (by omega) hn2, rminus_z n (-n) 0 A⟩
    · exact ⟨_, _, _, fun w => minus_ok 1 0 w ra (by omega) (by omega) (by omega) (by omega), fun w => rminus_p w⟩
    · exact ⟨_, _, _, fun w => minus_ok (-1) 0 w ra (by omega) (by omega) (by omega) (by omega), fun w => rminus_m w⟩

theorem bnd_law (i n j m : Int) (w : World) (i1 : -128 ≤ i) (i2 : i ≤ 127) (n1 : -9223372036854775808 ≤ n) (n2 : n ≤ 9223372036854775807) (j1 : -128 ≤ j) (j2 : j ≤ 127) (m1 : -9223372036854775808 ≤ m) (m2 : m ≤ 9223372036854775807) :
    Calls Try.prog 4 #[.agg #[.int .i8 i, .int .i64 n], .agg #[.int .i8 j, .int .i64 m]] w fun e w' => e = .returned (.bool true) ∧ Below w.heap.size w w' := by
  obtain ⟨x1, y1, e1, U1, U2⟩ := sums_same i n j m n1 n2 m1 m2
  obtain ⟨x2, y2, e2, V1, V2⟩ := minus_same i n n1 n2
  exact bnd_walk i n j m w x1 y1 e1 x2 y2 e2 _ _ (bnd_call U1) (bnd_call U2) (bnd_call V1) (bnd_call V2) (bnd_call (right_is i n _ rfl)) (bnd_call (rRight_is i n _ rfl)) (bnd_call (less_is i n j m _ rfl)) (bnd_call fun w => rless_any i n j m w) (bnd_call awake_is)
end Go.Proofs.Ytplbdfdpcgmcjaa
