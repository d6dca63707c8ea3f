/- M10 in one. -/
import Derived.Test.YtllhcpkpbipjlaaDoorKag
namespace Go.Proofs.YtllhcpkpbipjlaaDoor
set_option linter.unusedVariables false
set_option linter.unusedSimpArgs false
open Go.ChangeShapes Go.WideShapes Go.ChangeAt Go.RowKit

def FA : Lx.Ex := .mk 1 [] [3] [.mk 0 [100, 97, 121] [] []]
def FB : Lx.Ex := .mk 10 [] [] [.mk 0 [97] [] [], .mk 2 [] [-1] [.mk 0 [98] [] []]]
theorem tour_leaf (s : List UInt8) : tour (.mk 0 s [] []) = fun d => [(pt0 0 ⟨s.toArray⟩ [] 0, d)] := by funext d; simp [tour, tours, pt0]
theorem tour_one (o : Int) (nu : List Int) (x : Lx.Ex) : tour (.mk o [] nu [x]) = fun d => (pt0 o ⟨#[]⟩ nu 1, d) :: tour x (d + 1) := by funext d; simp [tour, tours, pt0]
theorem tour_two (o : Int) (nu : List Int) (x y : Lx.Ex) : tour (.mk o [] nu [x, y]) = fun d => (pt0 o ⟨#[]⟩ nu 2, d) :: (tour x (d + 1) ++ tour y (d + 1)) := by funext d; simp [tour, tours, pt0]
theorem nat_one {w : World} {b : Nat} {x : Int} (h : w.heap[b]? = some (.cells #[.int .i64 x] 2 (0, 0))) (hx : -9223372036854775808 ≤ x ∧ x ≤ 9223372036854775807) : NAt w (some ⟨b, 0, none⟩) 1 1 [x] :=
  ⟨rfl, Nat.le_refl _, by omega, (fun e => by cases e), fun _ => ⟨b, 0, rfl, fun i hi => by
    have : i = 0 := by simp at hi; omega
    subst this
    exact ⟨cell_blk h 0, hx⟩⟩⟩
theorem blk_below {w w' : World} {b : Nat} {o : Obj} (h : w.heap[b]? = some o) (q : Below w.heap.size w w') : w'.heap[b]? = some o := (q.block b (Array.getElem?_eq_some_iff.1 h).1).trans h
/-- What awake holds from its first three boxes on. -/
structure Aw0 (w W : World) (b1 b2 b5 : Nat) (zA zB : Hv) : Prop where
  bw : Below w.heap.size w W
  c1 : W.heap[b1]? = some (.cells #[.int .u8 0, .string ⟨#[100, 97, 121]⟩, .slice none 0 0, .slice none 0 0] 31 (0, 0))
  c2 : W.heap[b2]? = some (.cells #[.int .u8 zA.p.op, .string zA.p.nm, .slice zA.an zA.nn zA.nc, .slice zA.aa zA.p.k zA.ac] 31 (0, 0))
  c5 : W.heap[b5]? = some (.cells #[.int .u8 zB.p.op, .string zB.p.nm, .slice zB.an zB.nn zB.nc, .slice zB.aa zB.p.k zB.ac] 31 (0, 0))
  eA : ExAt W 41 (hV zA) (tour FA)
  eB : ExAt W 41 (hV zB) (tour FB)
theorem Aw0.keep {w W W' : World} {b1 b2 b5 : Nat} {zA zB : Hv} (h : Aw0 w W b1 b2 b5 zA zB) (q : Below W.heap.size W W') : Aw0 w W' b1 b2 b5 zA zB :=
  ⟨h.bw.trans (q.mono h.bw.size), blk_below h.c1 q, blk_below h.c2 q, blk_below h.c5 q, h.eA.keep q, h.eB.keep q⟩
/-- What awake holds at its first test. -/
structure Aw1 (w W : World) (b1 b2 b5 b8 g8 : Nat) (zA zB : Hv) : Prop where
  a0 : Aw0 w W b1 b2 b5 zA zB
  c8 : W.heap[b8]? = some (.cells #[.int .u8 10, .string ⟨#[]⟩, .slice none 0 0, .slice (some ⟨g8, 0, none⟩) 2 2] 31 (0, 0))
  e8 : ExAt W 3 (.agg #[.int .u8 10, .string ⟨#[]⟩, .slice none 0 0, .slice (some ⟨g8, 0, none⟩) 2 2]) (tour FB)
theorem Aw1.keep {w W W' : World} {b1 b2 b5 b8 g8 : Nat} {zA zB : Hv} (h : Aw1 w W b1 b2 b5 b8 g8 zA zB) (q : Below W.heap.size W W') : Aw1 w W' b1 b2 b5 b8 g8 zA zB :=
  ⟨h.a0.keep q, blk_below h.c8 q, h.e8.keep q⟩
def lsS : Nat → ByteArray
  | 0 => ⟨#[103, 114, 111, 117, 112, 40, 100, 97, 121, 41]⟩
  | 1 => ⟨#[103, 114, 111, 117, 112, 40, 51, 44, 32, 100, 97, 121]⟩
  | 2 => ⟨#[97, 32, 98]⟩
  | _ => ⟨#[]⟩
def lsA : Nat → Int
  | 0 => 2
  | 1 => 5
  | 2 => 1
  | _ => 0
theorem fa_made {w : World} {r1 r2 : Nat} (h1 : w.heap[r1]? = some (.cells #[.int .i64 3] 2 (0, 0))) (h2 : w.heap[r2]? = some (.cells #[.int .u8 0, .string ⟨#[100, 97, 121]⟩, .slice none 0 0, .slice none 0 0] 31 (0, 0))) : ExAt w 2 (.agg #[.int .u8 1, .string ⟨#[]⟩, .slice (some ⟨r1, 0, none⟩) 1 1, .slice (some ⟨r2, 0, none⟩) 1 1]) (tour FA) := by
  have xb := ex_name w 0 ⟨#[100, 97, 121]⟩ (by decide) (by decide) (by decide)
  have := ex_one (o := 1) (by decide) (by decide) (nat_one h1 (by decide)) h2 xb
  unfold FA
  rw [tour_one, tour_leaf]
  exact this
theorem lines_any (j : Nat) (w W : World) (hT : Tabn w) (hW : Tabw w) (k : Below w.heap.size w W) :
    Calls Tryd.prog 25 #[.string (lsS j)] W fun e w' => ∃ z : Hv, e = .returned (.tuple #[.agg #[.int .u8 z.p.op, .string z.p.nm, .slice z.an z.nn z.nc, .slice z.aa z.p.k z.ac], .int .i64 (lsA j), .int .i64 110]) ∧ Hid (Below W.heap.size W w') := by
  have f : ∀ {P : World → Prop} {c : Hv → World → Prop} {e : Ending} {w' : World} {a : Int}, (∃ z : Hv, e = .returned (.tuple #[.agg #[.int .u8 z.p.op, .string z.p.nm, .slice z.an z.nn z.nc, .slice z.aa z.p.k z.ac], .int .i64 a, .int .i64 110]) ∧ Hid (P w') ∧ Hid (c z w')) → ∃ z : Hv, e = .returned (.tuple #[.agg #[.int .u8 z.p.op, .string z.p.nm, .slice z.an z.nn z.nc, .slice z.aa z.p.k z.ac], .int .i64 a, .int .i64 110]) ∧ Hid (P w') := fun ⟨z, a, b, _⟩ => ⟨z, a, b⟩
  match j with
  | 0 => exact (line_e ⟨#[103, 114, 111, 117, 112, 40, 100, 97, 121, 41]⟩ TC _ _ _ _ wC eC bC (by decide) W (hT.keep k) (hW.keep k)).mono fun e w' h => f (P := fun w' => Below W.heap.size W w') (c := fun z w' => ExAt w' 41 (hV z) (tour (Lx.leaf []))) h
  | 1 => exact (line_e ⟨#[103, 114, 111, 117, 112, 40, 51, 44, 32, 100, 97, 121]⟩ TD _ _ _ _ wD eD bD (by decide) W (hT.keep k) (hW.keep k)).mono fun e w' h => f (P := fun w' => Below W.heap.size W w') (c := fun z w' => ExAt w' 41 (hV z) (tour (Lx.leaf []))) h
  | 2 => exact (line_e ⟨#[97, 32, 98]⟩ TE _ _ _ _ wE eE bE (by decide) W (hT.keep k) (hW.keep k)).mono fun e w' h => f (P := fun w' => Below W.heap.size W w') (c := fun z w' => ExAt w' 41 (hV z) (tour (Lx.leaf []))) h
  | j + 3 => exact (line_e ⟨#[]⟩ TF _ _ _ _ wF eF bF (by decide) W (hT.keep k) (hW.keep k)).mono fun e w' h => f (P := fun w' => Below W.heap.size W w') (c := fun z w' => ExAt w' 41 (hV z) (tour (Lx.leaf []))) h
set_option maxRecDepth 30000 in
set_option maxHeartbeats 8000000 in
theorem awake_any (w : World) (hT : Tabn w) (hW : Tabw w) : Calls Tryd.prog 8 #[] w fun e w' => e = .returned (.bool true) ∧ Below w.heap.size w w' := by
  have HT := Lib.hid hT
  have HW := Lib.hid hW
  have CA := Lib.hid (fun W (k : Below w.heap.size w W) => line_e ⟨#[103, 114, 111, 117, 112, 40, 51, 44, 32, 100, 97, 121, 41]⟩ TA _ _ _ _ wA eA bA (by decide) W (hT.keep k) (hW.keep k))
  have CB := Lib.hid (fun W (k : Below w.heap.size w W) => line_e ⟨#[117, 110, 105, 111, 110, 40, 97, 44, 32, 115, 104, 105, 102, 116, 40, 45, 49, 44, 32, 98, 41, 41]⟩ TB _ _ _ _ wB eB bB (by decide) W (hT.keep k) (hW.keep k))
  have CG := Lib.hid (fun W (k : Below w.heap.size w W) => line_e ⟨#[103, 114, 111, 117, 112]⟩ TG _ _ _ _ wG eG bG (by decide) W (hT.keep k) (hW.keep k))
  have CH := Lib.hid (fun W (k : Below w.heap.size w W) => line_c ⟨#[98, 111, 117, 110, 100, 32, 120, 32, 121, 32, 100, 97, 121, 32, 91, 49, 58, 93]⟩ TH _ _ _ _ wH cH bH (by decide) W (hT.keep k) (hW.keep k))
  have CI := Lib.hid (fun W (k : Below w.heap.size w W) => line_c ⟨#[100, 101, 102, 105, 110, 101, 32, 97, 32, 61, 32, 98]⟩ TI _ _ _ _ wI cI bI (by decide) W (hT.keep k) (hW.keep k))
  have CJ := Lib.hid (fun W (k : Below w.heap.size w W) => line_c ⟨#[100, 101, 102, 105, 110, 101, 32, 97, 32, 98]⟩ TJ _ _ _ _ wJ cJ bJ (by decide) W (hT.keep k) (hW.keep k))
  have CK := Lib.hid (fun W (k : Below w.heap.size w W) => line_c ⟨#[83, 104, 111, 119, 32, 97]⟩ TK _ _ _ _ wK cK bK (by decide) W (hT.keep k) (hW.keep k))
  have CL := Lib.hid (fun j W (k : Below w.heap.size w W) => lines_any j w W hT hW k)
  clear hT hW
  go_enter Tryd.func8, Tryd.ntmps8
  go_wp2_with fail
  (with_reducible refine (named_any ⟨#[100, 97, 121]⟩ w).mono ?_)
  rintro e w1 ⟨rfl, q⟩
  have HB := Lib.hid q
  clear q
  obtain ⟨b1, hb1⟩ : ∃ z, w1.heap.size = z := ⟨_, rfl⟩
  obtain ⟨w2, hw2⟩ : ∃ z, w1.alloc (.cells #[.int .u8 0, .string ⟨#[100, 97, 121]⟩, .slice none 0 0, .slice none 0 0] 31) = z := ⟨_, rfl⟩
  have KA := Lib.hid (show Below w1.heap.size w1 w2 by rw [← hw2]; exact (Below.refl _ w1).alloc (Nat.le_refl _) _)
  have X1 : Hid (w2.heap[b1]? = some (.cells #[.int .u8 0, .string ⟨#[100, 97, 121]⟩, .slice none 0 0, .slice none 0 0] 31 (0, 0))) := Lib.hid (by rw [← hw2, ← hb1, al_new])
  have HB := Lib.hid (HB.out.trans (KA.out.mono HB.out.size))
  have CAA := Lib.hid (CA.out w2 HB.out)
  have HWX := Lib.hid hw2
  have HBX := Lib.hid hb1
  clear KA CA hw2 hb1
  go_upto_region 2 with fail
  rw [HWX.out, HBX.out]
  clear HWX HBX
  go_wp2_with fail
  (with_reducible refine CAA.out.mono ?_)
  rintro e w3 ⟨zA, rfl, q, EA⟩
  have X1 := Lib.hid (blk_below X1.out q.out)
  have HB := Lib.hid (HB.out.trans (q.out.mono HB.out.size))
  clear q CAA
  obtain ⟨b2, hb2⟩ : ∃ z, w3.heap.size = z := ⟨_, rfl⟩
  obtain ⟨w4, hw4⟩ : ∃ z, w3.alloc (.cells #[.int .u8 zA.p.op, .string zA.p.nm, .slice zA.an zA.nn zA.nc, .slice zA.aa zA.p.k zA.ac] 31) = z := ⟨_, rfl⟩
  have KA := Lib.hid (show Below w3.heap.size w3 w4 by rw [← hw4]; exact (Below.refl _ w3).alloc (Nat.le_refl _) _)
  have X2 : Hid (w4.heap[b2]? = some (.cells #[.int .u8 zA.p.op, .string zA.p.nm, .slice zA.an zA.nn zA.nc, .slice zA.aa zA.p.k zA.ac] 31 (0, 0))) := Lib.hid (by rw [← hw4, ← hb2, al_new])
  have X1 := Lib.hid (blk_below X1.out KA.out)
  have EA := Lib.hid (EA.out.keep KA.out)
  have HB := Lib.hid (HB.out.trans (KA.out.mono HB.out.size))
  have CBB := Lib.hid (CB.out w4 HB.out)
  have HWX := Lib.hid hw4
  have HBX := Lib.hid hb2
  clear KA CB hw4 hb2
  go_upto_region 3 with fail
  rw [HWX.out, HBX.out]
  clear HWX HBX
  go_wp2_with fail
  (with_reducible refine CBB.out.mono ?_)
  rintro e w5 ⟨zB, rfl, q, EB⟩
  have X1 := Lib.hid (blk_below X1.out q.out)
  have X2 := Lib.hid (blk_below X2.out q.out)
  have EA := Lib.hid (EA.out.keep q.out)
  have HB := Lib.hid (HB.out.trans (q.out.mono HB.out.size))
  clear q CBB
  obtain ⟨b5, hb5⟩ : ∃ z, w5.heap.size = z := ⟨_, rfl⟩
  obtain ⟨w6, hw6⟩ : ∃ z, w5.alloc (.cells #[.int .u8 zB.p.op, .string zB.p.nm, .slice zB.an zB.nn zB.nc, .slice zB.aa zB.p.k zB.ac] 31) = z := ⟨_, rfl⟩
  have KA := Lib.hid (show Below w5.heap.size w5 w6 by rw [← hw6]; exact (Below.refl _ w5).alloc (Nat.le_refl _) _)
  have X5 : Hid (w6.heap[b5]? = some (.cells #[.int .u8 zB.p.op, .string zB.p.nm, .slice zB.an zB.nn zB.nc, .slice zB.aa zB.p.k zB.ac] 31 (0, 0))) := Lib.hid (by rw [← hw6, ← hb5, al_new])
  have X1 := Lib.hid (blk_below X1.out KA.out)
  have X2 := Lib.hid (blk_below X2.out KA.out)
  have EA := Lib.hid (EA.out.keep KA.out)
  have EB := Lib.hid (EB.out.keep KA.out)
  have HB := Lib.hid (HB.out.trans (KA.out.mono HB.out.size))
  have HWX := Lib.hid hw6
  have HBX := Lib.hid hb5
  clear KA hw6 hb5
  go_upto_region 4 with fail
  rw [HWX.out, HBX.out]
  clear HWX HBX
  have H0 : Hid (Aw0 w w6 b1 b2 b5 zA zB) := Lib.hid ⟨HB.out, X1.out, X2.out, X5.out, EA.out, EB.out⟩
  clear HB X1 X2 X5 EA EB
  go_wp2_with fail
  (with_reducible refine (named_any ⟨#[97]⟩ w6).mono ?_)
  rintro e w7 ⟨rfl, q⟩
  have H0 := Lib.hid (H0.out.keep q)
  clear q
  obtain ⟨g1, hg1⟩ : ∃ z, w7.heap.size = z := ⟨_, rfl⟩
  obtain ⟨w8, hw8⟩ : ∃ z, w7.alloc (.cells #[.int .i64 (-1)] 2) = z := ⟨_, rfl⟩
  have KA := Lib.hid (show Below w7.heap.size w7 w8 by rw [← hw8]; exact (Below.refl _ w7).alloc (Nat.le_refl _) _)
  have G1 : Hid (w8.heap[g1]? = some (.cells #[.int .i64 (-1)] 2 (0, 0))) := Lib.hid (by rw [← hw8, ← hg1, al_new])
  have H0 := Lib.hid (H0.out.keep KA.out)
  go_wp2_with fail
  clear hg1 hw8 KA
  (with_reducible refine (named_any ⟨#[98]⟩ w8).mono ?_)
  rintro e w9 ⟨rfl, q⟩
  have H0 := Lib.hid (H0.out.keep q)
  have G1 := Lib.hid (blk_below G1.out q)
  clear q
  obtain ⟨g2, hg2⟩ : ∃ z, w9.heap.size = z := ⟨_, rfl⟩
  obtain ⟨w10, hw10⟩ : ∃ z, w9.alloc (.cells #[.int .u8 0, .string ⟨#[98]⟩, .slice none 0 0, .slice none 0 0] 31) = z := ⟨_, rfl⟩
  have KA := Lib.hid (show Below w9.heap.size w9 w10 by rw [← hw10]; exact (Below.refl _ w9).alloc (Nat.le_refl _) _)
  have G2 : Hid (w10.heap[g2]? = some (.cells #[.int .u8 0, .string ⟨#[98]⟩, .slice none 0 0, .slice none 0 0] 31 (0, 0))) := Lib.hid (by rw [← hw10, ← hg2, al_new])
  have H0 := Lib.hid (H0.out.keep KA.out)
  have G1 := Lib.hid (blk_below G1.out KA.out)
  go_wp2_with fail
  clear hg2 hw10 KA
  (with_reducible refine (made_any 2 _ _ w10 (some ⟨g1, 0, none⟩) (some ⟨g2, 0, none⟩) 1 1 1 1 rfl rfl).mono ?_)
  rintro e w11 ⟨rfl, q⟩
  have H0 := Lib.hid (H0.out.keep q)
  have G1 := Lib.hid (blk_below G1.out q)
  have G2 := Lib.hid (blk_below G2.out q)
  clear q
  obtain ⟨g3, hg3⟩ : ∃ z, w11.heap.size = z := ⟨_, rfl⟩
  obtain ⟨w12, hw12⟩ : ∃ z, w11.alloc (.cells #[.int .u8 0, .string ⟨#[97]⟩, .slice none 0 0, .slice none 0 0, .int .u8 2, .string ⟨#[]⟩, .slice (some ⟨g1, 0, none⟩) 1 1, .slice (some ⟨g2, 0, none⟩) 1 1] 31) = z := ⟨_, rfl⟩
  have KA := Lib.hid (show Below w11.heap.size w11 w12 by rw [← hw12]; exact (Below.refl _ w11).alloc (Nat.le_refl _) _)
  have G3 : Hid (w12.heap[g3]? = some (.cells #[.int .u8 0, .string ⟨#[97]⟩, .slice none 0 0, .slice none 0 0, .int .u8 2, .string ⟨#[]⟩, .slice (some ⟨g1, 0, none⟩) 1 1, .slice (some ⟨g2, 0, none⟩) 1 1] 31 (0, 0))) := Lib.hid (by rw [← hw12, ← hg3, al_new])
  have H0 := Lib.hid (H0.out.keep KA.out)
  have G1 := Lib.hid (blk_below G1.out KA.out)
  have G2 := Lib.hid (blk_below G2.out KA.out)
  go_wp2_with fail
  clear hg3 hw12 KA
  (with_reducible refine (made_any 10 _ _ w12 none (some ⟨g3, 0, none⟩) 0 0 2 2 rfl rfl).mono ?_)
  rintro e w13 ⟨rfl, q⟩
  have H0 := Lib.hid (H0.out.keep q)
  have G1 := Lib.hid (blk_below G1.out q)
  have G2 := Lib.hid (blk_below G2.out q)
  have G3 := Lib.hid (blk_below G3.out q)
  clear q
  have E8 : Hid (ExAt w13 3 (.agg #[.int .u8 10, .string ⟨#[]⟩, .slice none 0 0, .slice (some ⟨g3, 0, none⟩) 2 2]) (tour FB)) := Lib.hid (by
    have xa := ex_name w13 0 ⟨#[97]⟩ (by decide) (by decide) (by decide)
    have xb := ex_name w13 0 ⟨#[98]⟩ (by decide) (by decide) (by decide)
    have xs := ex_one (o := 2) (by decide) (by decide) (nat_one G1.out (by decide)) G2.out xb
    have := ex_two (o := 10) (by decide) (by decide) (nat_nil w13) G3.out (xa.more (by omega : 1 ≤ 2)) xs
    unfold FB
    rw [tour_two, tour_one, tour_leaf, tour_leaf]
    exact this)
  clear G1 G2 G3
  obtain ⟨b8, hb8⟩ : ∃ z, w13.heap.size = z := ⟨_, rfl⟩
  obtain ⟨w14, hw14⟩ : ∃ z, w13.alloc (.cells #[.int .u8 10, .string ⟨#[]⟩, .slice none 0 0, .slice (some ⟨g3, 0, none⟩) 2 2] 31) = z := ⟨_, rfl⟩
  have KA := Lib.hid (show Below w13.heap.size w13 w14 by rw [← hw14]; exact (Below.refl _ w13).alloc (Nat.le_refl _) _)
  have HA : Hid (Aw1 w w14 b1 b2 b5 b8 g3 zA zB) := Lib.hid ⟨H0.out.keep KA.out, by rw [← hw14, ← hb8, al_new], E8.out.keep KA.out⟩
  have HWX := Lib.hid hw14
  have HBX := Lib.hid hb8
  clear KA H0 E8 hw14 hb8
  go_upto_region 5 with fail
  rw [HWX.out, HBX.out]
  clear HWX HBX
  have HS : Hid (∀ W, Aw1 w W b1 b2 b5 b8 g3 zA zB → W.cell? ⟨b1, 0, none⟩ = some (.int .u8 0) ∧ W.cell? ⟨b1, 1, none⟩ = some (.string ⟨#[100, 97, 121]⟩) ∧ W.cell? ⟨b1, 2, none⟩ = some (.slice none 0 0) ∧ W.cell? ⟨b1, 3, none⟩ = some (.slice none 0 0) ∧ W.cell? ⟨b2, 0, none⟩ = some (.int .u8 zA.p.op) ∧ W.cell? ⟨b2, 1, none⟩ = some (.string zA.p.nm) ∧ W.cell? ⟨b2, 2, none⟩ = some (.slice zA.an zA.nn zA.nc) ∧ W.cell? ⟨b2, 3, none⟩ = some (.slice zA.aa zA.p.k zA.ac) ∧ W.cell? ⟨b5, 0, none⟩ = some (.int .u8 zB.p.op) ∧ W.cell? ⟨b5, 1, none⟩ = some (.string zB.p.nm) ∧ W.cell? ⟨b5, 2, none⟩ = some (.slice zB.an zB.nn zB.nc) ∧ W.cell? ⟨b5, 3, none⟩ = some (.slice zB.aa zB.p.k zB.ac) ∧ W.cell? ⟨b8, 0, none⟩ = some (.int .u8 10) ∧ W.cell? ⟨b8, 1, none⟩ = some (.string ⟨#[]⟩) ∧ W.cell? ⟨b8, 2, none⟩ = some (.slice none 0 0) ∧ W.cell? ⟨b8, 3, none⟩ = some (.slice (some ⟨g3, 0, none⟩) 2 2) ∧ Hid (Aw1 w W b1 b2 b5 b8 g3 zA zB)) := Lib.hid (fun W h => ⟨cell_blk h.a0.c1 0, cell_blk h.a0.c1 1, cell_blk h.a0.c1 2, cell_blk h.a0.c1 3, cell_blk h.a0.c2 0, cell_blk h.a0.c2 1, cell_blk h.a0.c2 2, cell_blk h.a0.c2 3, cell_blk h.a0.c5 0, cell_blk h.a0.c5 1, cell_blk h.a0.c5 2, cell_blk h.a0.c5 3, cell_blk h.c8 0, cell_blk h.c8 1, cell_blk h.c8 2, cell_blk h.c8 3, Lib.hid h⟩)
  go_cut [75] from 47 to 75 (fun s75 wx => s75 = .bool false ∧ Hid (Aw1 w wx b1 b2 b5 b8 g3 zA zB))
  case first =>
    refine wp_region_held_drew (S := (fun W => W.cell? ⟨b1, 0, none⟩ = some (.int .u8 0) ∧ W.cell? ⟨b1, 1, none⟩ = some (.string ⟨#[100, 97, 121]⟩) ∧ W.cell? ⟨b1, 2, none⟩ = some (.slice none 0 0) ∧ W.cell? ⟨b1, 3, none⟩ = some (.slice none 0 0) ∧ W.cell? ⟨b2, 0, none⟩ = some (.int .u8 zA.p.op) ∧ W.cell? ⟨b2, 1, none⟩ = some (.string zA.p.nm) ∧ W.cell? ⟨b2, 2, none⟩ = some (.slice zA.an zA.nn zA.nc) ∧ W.cell? ⟨b2, 3, none⟩ = some (.slice zA.aa zA.p.k zA.ac) ∧ W.cell? ⟨b5, 0, none⟩ = some (.int .u8 zB.p.op) ∧ W.cell? ⟨b5, 1, none⟩ = some (.string zB.p.nm) ∧ W.cell? ⟨b5, 2, none⟩ = some (.slice zB.an zB.nn zB.nc) ∧ W.cell? ⟨b5, 3, none⟩ = some (.slice zB.aa zB.p.k zB.ac) ∧ W.cell? ⟨b8, 0, none⟩ = some (.int .u8 10) ∧ W.cell? ⟨b8, 1, none⟩ = some (.string ⟨#[]⟩) ∧ W.cell? ⟨b8, 2, none⟩ = some (.slice none 0 0) ∧ W.cell? ⟨b8, 3, none⟩ = some (.slice (some ⟨g3, 0, none⟩) 2 2) ∧ Hid (Aw1 w W b1 b2 b5 b8 g3 zA zB))) (by kernel_rfl) ?_ (fun hHeld => ?_)
    · exact HS.out _ (HA.out.keep (Below.refl _ _).drew)
    refine wpAnyH_take (i := 0) (oi := _) (v := ?_) rfl (by kernel_rfl) (by kernel_rfl) (by kernel_rfl) (fun _ _ _ h => h) (Or.inl ⟨by kernel_rfl, ?_⟩) (by assumption) ?_
    rotate_left 1
    focus (intro wq hSw; (try dsimp only at hSw); obtain ⟨s0, s1, s2, s3, s4, s5, s6, s7, s8, s9, s10, s11, s12, s13, s14, s15, s16⟩ := hSw; go_simp; (try with_reducible rfl); done)
    try simp only [List.getElem_toArray, List.getElem_cons_zero, List.getElem_cons_succ, Act.put, List.setIfInBounds_toArray, List.set_cons_zero, List.set_cons_succ]
    refine wpAnyH_take (i := 1) (oi := _) (v := ?_) rfl (by kernel_rfl) (by kernel_rfl) (by kernel_rfl) (fun _ _ _ h => h) (Or.inl ⟨by kernel_rfl, ?_⟩) (by assumption) ?_
    rotate_left 1
    focus (intro wq hSw; (try dsimp only at hSw); obtain ⟨s0, s1, s2, s3, s4, s5, s6, s7, s8, s9, s10, s11, s12, s13, s14, s15, s16⟩ := hSw; go_simp; (try with_reducible rfl); done)
    try simp only [List.getElem_toArray, List.getElem_cons_zero, List.getElem_cons_succ, Act.put, List.setIfInBounds_toArray, List.set_cons_zero, List.set_cons_succ]
    refine wpAnyH_take (i := 2) (oi := _) (v := ?_) rfl (by kernel_rfl) (by kernel_rfl) (by kernel_rfl) (fun _ _ _ h => h) (Or.inl ⟨by kernel_rfl, ?_⟩) (by assumption) ?_
    rotate_left 1
    focus (intro wq hSw; (try dsimp only at hSw); obtain ⟨s0, s1, s2, s3, s4, s5, s6, s7, s8, s9, s10, s11, s12, s13, s14, s15, s16⟩ := hSw; go_simp; (try with_reducible rfl); done)
    try simp only [List.getElem_toArray, List.getElem_cons_zero, List.getElem_cons_succ, Act.put, List.setIfInBounds_toArray, List.set_cons_zero, List.set_cons_succ]
    refine wpAnyH_take (i := 3) (oi := _) (v := ?_) rfl (by kernel_rfl) (by kernel_rfl) (by kernel_rfl) (fun _ _ _ h => h) (Or.inl ⟨by kernel_rfl, ?_⟩) (by assumption) ?_
    rotate_left 1
    focus (intro wq hSw; (try dsimp only at hSw); obtain ⟨s0, s1, s2, s3, s4, s5, s6, s7, s8, s9, s10, s11, s12, s13, s14, s15, s16⟩ := hSw; go_simp; (try with_reducible rfl); done)
    try simp only [List.getElem_toArray, List.getElem_cons_zero, List.getElem_cons_succ, Act.put, List.setIfInBounds_toArray, List.set_cons_zero, List.set_cons_succ]
    refine wpAnyH_take (i := 4) (oi := _) (v := ?_) rfl (by kernel_rfl) (by kernel_rfl) (by kernel_rfl) (fun _ _ _ h => h) (Or.inl ⟨by kernel_rfl, ?_⟩) (by assumption) ?_
    rotate_left 1
    focus (intro wq hSw; (try dsimp only at hSw); obtain ⟨s0, s1, s2, s3, s4, s5, s6, s7, s8, s9, s10, s11, s12, s13, s14, s15, s16⟩ := hSw; go_simp; (try with_reducible rfl); done)
    try simp only [List.getElem_toArray, List.getElem_cons_zero, List.getElem_cons_succ, Act.put, List.setIfInBounds_toArray, List.set_cons_zero, List.set_cons_succ]
    refine wpAnyH_take (i := 5) (oi := _) (v := ?_) rfl (by kernel_rfl) (by kernel_rfl) (by kernel_rfl) (fun _ _ _ h => h) (Or.inl ⟨by kernel_rfl, ?_⟩) (by assumption) ?_
    rotate_left 1
    focus (intro wq hSw; (try dsimp only at hSw); obtain ⟨s0, s1, s2, s3, s4, s5, s6, s7, s8, s9, s10, s11, s12, s13, s14, s15, s16⟩ := hSw; go_simp; (try with_reducible rfl); done)
    try simp only [List.getElem_toArray, List.getElem_cons_zero, List.getElem_cons_succ, Act.put, List.setIfInBounds_toArray, List.set_cons_zero, List.set_cons_succ]
    refine wpAnyH_take (i := 6) (oi := _) (v := ?_) rfl (by kernel_rfl) (by kernel_rfl) (by kernel_rfl) (fun _ _ _ h => h) (Or.inl ⟨by kernel_rfl, ?_⟩) (by assumption) ?_
    rotate_left 1
    focus (intro wq hSw; (try dsimp only at hSw); obtain ⟨s0, s1, s2, s3, s4, s5, s6, s7, s8, s9, s10, s11, s12, s13, s14, s15, s16⟩ := hSw; go_simp; (try with_reducible rfl); done)
    try simp only [List.getElem_toArray, List.getElem_cons_zero, List.getElem_cons_succ, Act.put, List.setIfInBounds_toArray, List.set_cons_zero, List.set_cons_succ]
    refine wpAnyH_take (i := 7) (oi := _) (v := ?_) rfl (by kernel_rfl) (by kernel_rfl) (by kernel_rfl) (fun _ _ _ h => h) (Or.inl ⟨by kernel_rfl, ?_⟩) (by assumption) ?_
    rotate_left 1
    focus (intro wq hSw; (try dsimp only at hSw); obtain ⟨s0, s1, s2, s3, s4, s5, s6, s7, s8, s9, s10, s11, s12, s13, s14, s15, s16⟩ := hSw; go_simp; (try with_reducible rfl); done)
    try simp only [List.getElem_toArray, List.getElem_cons_zero, List.getElem_cons_succ, Act.put, List.setIfInBounds_toArray, List.set_cons_zero, List.set_cons_succ]
    refine wpAnyH_take (i := 9) (oi := _) (v := ?_) rfl (by kernel_rfl) (by kernel_rfl) (by kernel_rfl) (fun _ _ _ h => h) (Or.inl ⟨by kernel_rfl, ?_⟩) (by assumption) ?_
    rotate_left 1
    focus (intro wq hSw; (try dsimp only at hSw); obtain ⟨s0, s1, s2, s3, s4, s5, s6, s7, s8, s9, s10, s11, s12, s13, s14, s15, s16⟩ := hSw; go_simp; (try with_reducible rfl); done)
    try simp only [List.getElem_toArray, List.getElem_cons_zero, List.getElem_cons_succ, Act.put, List.setIfInBounds_toArray, List.set_cons_zero, List.set_cons_succ]
    refine wpAnyH_ready (rs := [8, 10]) (by kernel_rfl) (by simp) ?_
    refine AllReadyH.cons (o := _) rfl (fun K hK => ?_) (AllReadyH.cons (o := _) rfl (fun K hK => ?_) AllReadyH.nil)
    · rw [if_pos (by kernel_rfl)]
      go_simp
      have G1 : (w14.drew.alloc (.cells #[.int .i64 3] 2)).heap[w14.heap.size]? = some (.cells #[.int .i64 3] 2 (0, 0)) := al_new w14.drew _
      first | refine hK.out _ _ ?_ (fun hHeld => ?_) | (go_wp2_with fail; refine hK.out _ _ ?_ (fun hHeld => ?_))
      · exact (by first | exact HS.out _ (hHeld.2.2.2.2.2.2.2.2.2.2.2.2.2.2.2.2.out.keep q) | exact HS.out _ (hHeld.2.2.2.2.2.2.2.2.2.2.2.2.2.2.2.2.out.keep ((Below.refl _ _).alloc (Nat.le_refl _) _)))
      clear hK K
      try simp only [List.getElem_toArray, List.getElem_cons_zero, List.getElem_cons_succ, Act.put, List.setIfInBounds_toArray, List.set_cons_zero, List.set_cons_succ]
      refine wpAnyH_ready (rs := [10]) (by kernel_rfl) (by simp) ?_
      refine AllReadyH.cons (o := _) rfl (fun K hK => ?_) AllReadyH.nil
      rw [if_pos (by kernel_rfl)]
      go_simp
      have G2 : ((w14.drew.alloc (.cells #[.int .i64 3] 2)).alloc (.cells #[.int .u8 0, .string ⟨#[100, 97, 121]⟩, .slice none 0 0, .slice none 0 0] 31)).heap[w14.heap.size + 1]? = some (.cells #[.int .u8 0, .string ⟨#[100, 97, 121]⟩, .slice none 0 0, .slice none 0 0] 31 (0, 0)) := (by have h := al_new (w14.drew.alloc (.cells #[.int .i64 3] 2)) (.cells #[.int .u8 0, .string ⟨#[100, 97, 121]⟩, .slice none 0 0, .slice none 0 0] 31); simpa using h)
      have G1 := blk_below G1 ((Below.refl _ _).alloc (Nat.le_refl _) (.cells #[.int .u8 0, .string ⟨#[100, 97, 121]⟩, .slice none 0 0, .slice none 0 0] 31))
      first | refine hK.out _ _ ?_ (fun hHeld => ?_) | (go_wp2_with fail; refine hK.out _ _ ?_ (fun hHeld => ?_))
      · exact (by first | exact HS.out _ (hHeld.2.2.2.2.2.2.2.2.2.2.2.2.2.2.2.2.out.keep q) | exact HS.out _ (hHeld.2.2.2.2.2.2.2.2.2.2.2.2.2.2.2.2.out.keep ((Below.refl _ _).alloc (Nat.le_refl _) _)))
      clear hK K
      try simp only [List.getElem_toArray, List.getElem_cons_zero, List.getElem_cons_succ, Act.put, List.setIfInBounds_toArray, List.set_cons_zero, List.set_cons_succ]
      refine wpAnyH_ready (rs := [11]) (by kernel_rfl) (by simp) ?_
      refine AllReadyH.cons (o := _) rfl (fun K hK => ?_) AllReadyH.nil
      rw [if_pos (by kernel_rfl)]
      go_simp
      (go_at_call 26; (with_reducible refine (made_any 1 _ _ _ _ _ _ _ _ _ rfl rfl).mono ?_); rintro e z1 ⟨rfl, q⟩; have G1 := blk_below G1 q; have G2 := blk_below G2 q)
      first | refine hK.out _ _ ?_ (fun hHeld => ?_) | (go_wp2_with fail; refine hK.out _ _ ?_ (fun hHeld => ?_))
      · exact (by first | exact HS.out _ (hHeld.2.2.2.2.2.2.2.2.2.2.2.2.2.2.2.2.out.keep q) | exact HS.out _ (hHeld.2.2.2.2.2.2.2.2.2.2.2.2.2.2.2.2.out.keep ((Below.refl _ _).alloc (Nat.le_refl _) _)))
      clear hK K
      try simp only [List.getElem_toArray, List.getElem_cons_zero, List.getElem_cons_succ, Act.put, List.setIfInBounds_toArray, List.set_cons_zero, List.set_cons_succ]
      refine wpAnyH_ready (rs := [12]) (by kernel_rfl) (by simp) ?_
      refine AllReadyH.cons (o := _) rfl (fun K hK => ?_) AllReadyH.nil
      rw [if_pos (by kernel_rfl)]
      go_simp
      (go_at_call 17; (with_reducible refine (rsame_any 41 (.agg #[.int .u8 zA.p.op, .string zA.p.nm, .slice zA.an zA.nn zA.nc, .slice zA.aa zA.p.k zA.ac]) (tour FA) 2 _ (tour FA) _ hHeld.2.2.2.2.2.2.2.2.2.2.2.2.2.2.2.2.out.a0.eA (fa_made G1 G2) true ⟨fun _ => rfl, fun _ => rfl⟩).mono ?_); rintro e z2 ⟨rfl, q⟩; clear G1 G2)
      first | refine hK.out _ _ ?_ (fun hHeld => ?_) | (go_wp2_with fail; refine hK.out _ _ ?_ (fun hHeld => ?_))
      · exact (by first | exact HS.out _ (hHeld.2.2.2.2.2.2.2.2.2.2.2.2.2.2.2.2.out.keep q) | exact HS.out _ (hHeld.2.2.2.2.2.2.2.2.2.2.2.2.2.2.2.2.out.keep ((Below.refl _ _).alloc (Nat.le_refl _) _)))
      clear hK K
      try simp only [List.getElem_toArray, List.getElem_cons_zero, List.getElem_cons_succ, Act.put, List.setIfInBounds_toArray, List.set_cons_zero, List.set_cons_succ]
      refine wpAnyH_take (i := 13) (oi := _) (v := ?_) rfl (by kernel_rfl) (by kernel_rfl) (by kernel_rfl) (fun _ _ _ h => h) (Or.inl ⟨by kernel_rfl, ?_⟩) (by assumption) ?_
      rotate_left 1
      focus (intro wq hSw; (try dsimp only at hSw); obtain ⟨s0, s1, s2, s3, s4, s5, s6, s7, s8, s9, s10, s11, s12, s13, s14, s15, s16⟩ := hSw; go_simp; (try with_reducible rfl); done)
      try simp only [List.getElem_toArray, List.getElem_cons_zero, List.getElem_cons_succ, Act.put, List.setIfInBounds_toArray, List.set_cons_zero, List.set_cons_succ]
      refine wpAnyH_take (i := 14) (oi := _) (v := ?_) rfl (by kernel_rfl) (by kernel_rfl) (by kernel_rfl) (fun _ _ _ h => h) (Or.inl ⟨by kernel_rfl, ?_⟩) (by assumption) ?_
      rotate_left 1
      focus (intro wq hSw; (try dsimp only at hSw); obtain ⟨s0, s1, s2, s3, s4, s5, s6, s7, s8, s9, s10, s11, s12, s13, s14, s15, s16⟩ := hSw; go_simp; (try with_reducible rfl); done)
      try simp only [List.getElem_toArray, List.getElem_cons_zero, List.getElem_cons_succ, Act.put, List.setIfInBounds_toArray, List.set_cons_zero, List.set_cons_succ]
      refine wpAnyH_take (i := 15) (oi := _) (v := ?_) rfl (by kernel_rfl) (by kernel_rfl) (by kernel_rfl) (fun _ _ _ h => h) (Or.inl ⟨by kernel_rfl, ?_⟩) (by assumption) ?_
      rotate_left 1
      focus (intro wq hSw; (try dsimp only at hSw); obtain ⟨s0, s1, s2, s3, s4, s5, s6, s7, s8, s9, s10, s11, s12, s13, s14, s15, s16⟩ := hSw; go_simp; (try with_reducible rfl); done)
      try simp only [List.getElem_toArray, List.getElem_cons_zero, List.getElem_cons_succ, Act.put, List.setIfInBounds_toArray, List.set_cons_zero, List.set_cons_succ]
      refine wpAnyH_take (i := 16) (oi := _) (v := ?_) rfl (by kernel_rfl) (by kernel_rfl) (by kernel_rfl) (fun _ _ _ h => h) (Or.inl ⟨by kernel_rfl, ?_⟩) (by assumption) ?_
      rotate_left 1
      focus (intro wq hSw; (try dsimp only at hSw); obtain ⟨s0, s1, s2, s3, s4, s5, s6, s7, s8, s9, s10, s11, s12, s13, s14, s15, s16⟩ := hSw; go_simp; (try with_reducible rfl); done)
      try simp only [List.getElem_toArray, List.getElem_cons_zero, List.getElem_cons_succ, Act.put, List.setIfInBounds_toArray, List.set_cons_zero, List.set_cons_succ]
      refine wpAnyH_take (i := 17) (oi := _) (v := ?_) rfl (by kernel_rfl) (by kernel_rfl) (by kernel_rfl) (fun _ _ _ h => h) (Or.inl ⟨by kernel_rfl, ?_⟩) (by assumption) ?_
      rotate_left 1
      focus (intro wq hSw; (try dsimp only at hSw); obtain ⟨s0, s1, s2, s3, s4, s5, s6, s7, s8, s9, s10, s11, s12, s13, s14, s15, s16⟩ := hSw; go_simp; (try with_reducible rfl); done)
      try simp only [List.getElem_toArray, List.getElem_cons_zero, List.getElem_cons_succ, Act.put, List.setIfInBounds_toArray, List.set_cons_zero, List.set_cons_succ]
      refine wpAnyH_take (i := 18) (oi := _) (v := ?_) rfl (by kernel_rfl) (by kernel_rfl) (by kernel_rfl) (fun _ _ _ h => h) (Or.inl ⟨by kernel_rfl, ?_⟩) (by assumption) ?_
      rotate_left 1
      focus (intro wq hSw; (try dsimp only at hSw); obtain ⟨s0, s1, s2, s3, s4, s5, s6, s7, s8, s9, s10, s11, s12, s13, s14, s15, s16⟩ := hSw; go_simp; (try with_reducible rfl); done)
      try simp only [List.getElem_toArray, List.getElem_cons_zero, List.getElem_cons_succ, Act.put, List.setIfInBounds_toArray, List.set_cons_zero, List.set_cons_succ]
      refine wpAnyH_take (i := 19) (oi := _) (v := ?_) rfl (by kernel_rfl) (by kernel_rfl) (by kernel_rfl) (fun _ _ _ h => h) (Or.inl ⟨by kernel_rfl, ?_⟩) (by assumption) ?_
      rotate_left 1
      focus (intro wq hSw; (try dsimp only at hSw); obtain ⟨s0, s1, s2, s3, s4, s5, s6, s7, s8, s9, s10, s11, s12, s13, s14, s15, s16⟩ := hSw; go_simp; (try with_reducible rfl); done)
      try simp only [List.getElem_toArray, List.getElem_cons_zero, List.getElem_cons_succ, Act.put, List.setIfInBounds_toArray, List.set_cons_zero, List.set_cons_succ]
      refine wpAnyH_take (i := 20) (oi := _) (v := ?_) rfl (by kernel_rfl) (by kernel_rfl) (by kernel_rfl) (fun _ _ _ h => h) (Or.inl ⟨by kernel_rfl, ?_⟩) (by assumption) ?_
      rotate_left 1
      focus (intro wq hSw; (try dsimp only at hSw); obtain ⟨s0, s1, s2, s3, s4, s5, s6, s7, s8, s9, s10, s11, s12, s13, s14, s15, s16⟩ := hSw; go_simp; (try with_reducible rfl); done)
      try simp only [List.getElem_toArray, List.getElem_cons_zero, List.getElem_cons_succ, Act.put, List.setIfInBounds_toArray, List.set_cons_zero, List.set_cons_succ]
      refine wpAnyH_take (i := 21) (oi := _) (v := ?_) rfl (by kernel_rfl) (by kernel_rfl) (by kernel_rfl) (fun _ _ _ h => h) (Or.inl ⟨by kernel_rfl, ?_⟩) (by assumption) ?_
      rotate_left 1
      focus (intro wq hSw; (try dsimp only at hSw); obtain ⟨s0, s1, s2, s3, s4, s5, s6, s7, s8, s9, s10, s11, s12, s13, s14, s15, s16⟩ := hSw; go_simp; (try with_reducible rfl); done)
      try simp only [List.getElem_toArray, List.getElem_cons_zero, List.getElem_cons_succ, Act.put, List.setIfInBounds_toArray, List.set_cons_zero, List.set_cons_succ]
      refine wpAnyH_take (i := 22) (oi := _) (v := ?_) rfl (by kernel_rfl) (by kernel_rfl) (by kernel_rfl) (fun _ _ _ h => h) (Or.inl ⟨by kernel_rfl, ?_⟩) (by assumption) ?_
      rotate_left 1
      focus (intro wq hSw; (try dsimp only at hSw); obtain ⟨s0, s1, s2, s3, s4, s5, s6, s7, s8, s9, s10, s11, s12, s13, s14, s15, s16⟩ := hSw; go_simp; (try with_reducible rfl); done)
      try simp only [List.getElem_toArray, List.getElem_cons_zero, List.getElem_cons_succ, Act.put, List.setIfInBounds_toArray, List.set_cons_zero, List.set_cons_succ]
      refine wpAnyH_take (i := 23) (oi := _) (v := ?_) rfl (by kernel_rfl) (by kernel_rfl) (by kernel_rfl) (fun _ _ _ h => h) (Or.inl ⟨by kernel_rfl, ?_⟩) (by assumption) ?_
      rotate_left 1
      focus (intro wq hSw; (try dsimp only at hSw); obtain ⟨s0, s1, s2, s3, s4, s5, s6, s7, s8, s9, s10, s11, s12, s13, s14, s15, s16⟩ := hSw; go_simp; (try with_reducible rfl); done)
      try simp only [List.getElem_toArray, List.getElem_cons_zero, List.getElem_cons_succ, Act.put, List.setIfInBounds_toArray, List.set_cons_zero, List.set_cons_succ]
      refine wpAnyH_take (i := 24) (oi := _) (v := ?_) rfl (by kernel_rfl) (by kernel_rfl) (by kernel_rfl) (fun _ _ _ h => h) (Or.inl ⟨by kernel_rfl, ?_⟩) (by assumption) ?_
      rotate_left 1
      focus (intro wq hSw; (try dsimp only at hSw); obtain ⟨s0, s1, s2, s3, s4, s5, s6, s7, s8, s9, s10, s11, s12, s13, s14, s15, s16⟩ := hSw; go_simp; (try with_reducible rfl); done)
      try simp only [List.getElem_toArray, List.getElem_cons_zero, List.getElem_cons_succ, Act.put, List.setIfInBounds_toArray, List.set_cons_zero, List.set_cons_succ]
      refine wpAnyH_take (i := 25) (oi := _) (v := ?_) rfl (by kernel_rfl) (by kernel_rfl) (by kernel_rfl) (fun _ _ _ h => h) (Or.inl ⟨by kernel_rfl, ?_⟩) (by assumption) ?_
      rotate_left 1
      focus (intro wq hSw; (try dsimp only at hSw); obtain ⟨s0, s1, s2, s3, s4, s5, s6, s7, s8, s9, s10, s11, s12, s13, s14, s15, s16⟩ := hSw; go_simp; (try with_reducible rfl); done)
      try simp only [List.getElem_toArray, List.getElem_cons_zero, List.getElem_cons_succ, Act.put, List.setIfInBounds_toArray, List.set_cons_zero, List.set_cons_succ]
      refine wpAnyH_ready (rs := [26]) (by kernel_rfl) (by simp) ?_
      refine AllReadyH.cons (o := _) rfl (fun K hK => ?_) AllReadyH.nil
      rw [if_pos (by kernel_rfl)]
      go_simp
      (go_at_call 17; (with_reducible refine (rsame_any 41 (.agg #[.int .u8 zB.p.op, .string zB.p.nm, .slice zB.an zB.nn zB.nc, .slice zB.aa zB.p.k zB.ac]) (tour FB) 3 _ (tour FB) _ hHeld.2.2.2.2.2.2.2.2.2.2.2.2.2.2.2.2.out.a0.eB hHeld.2.2.2.2.2.2.2.2.2.2.2.2.2.2.2.2.out.e8 true ⟨fun _ => rfl, fun _ => rfl⟩).mono ?_); rintro e z3 ⟨rfl, q⟩)
      first | refine hK.out _ _ ?_ (fun hHeld => ?_) | (go_wp2_with fail; refine hK.out _ _ ?_ (fun hHeld => ?_))
      · exact (by first | exact HS.out _ (hHeld.2.2.2.2.2.2.2.2.2.2.2.2.2.2.2.2.out.keep q) | exact HS.out _ (hHeld.2.2.2.2.2.2.2.2.2.2.2.2.2.2.2.2.out.keep ((Below.refl _ _).alloc (Nat.le_refl _) _)))
      clear hK K
      try simp only [List.getElem_toArray, List.getElem_cons_zero, List.getElem_cons_succ, Act.put, List.setIfInBounds_toArray, List.set_cons_zero, List.set_cons_succ]
      refine wpAnyH_take (i := 27) (oi := _) (v := ?_) rfl (by kernel_rfl) (by kernel_rfl) (by kernel_rfl) (fun _ _ _ h => h) (Or.inl ⟨by kernel_rfl, ?_⟩) (by assumption) ?_
      rotate_left 1
      focus (intro wq hSw; (try dsimp only at hSw); obtain ⟨s0, s1, s2, s3, s4, s5, s6, s7, s8, s9, s10, s11, s12, s13, s14, s15, s16⟩ := hSw; go_simp; (try with_reducible rfl); done)
      try simp only [List.getElem_toArray, List.getElem_cons_zero, List.getElem_cons_succ, Act.put, List.setIfInBounds_toArray, List.set_cons_zero, List.set_cons_succ]
      refine wpAnyH_take (i := 28) (oi := _) (v := ?_) rfl (by kernel_rfl) (by kernel_rfl) (by kernel_rfl) (fun _ _ _ h => h) (Or.inl ⟨by kernel_rfl, ?_⟩) (by assumption) ?_
      rotate_left 1
      focus (intro wq hSw; (try dsimp only at hSw); obtain ⟨s0, s1, s2, s3, s4, s5, s6, s7, s8, s9, s10, s11, s12, s13, s14, s15, s16⟩ := hSw; go_simp; (try with_reducible rfl); done)
      try simp only [List.getElem_toArray, List.getElem_cons_zero, List.getElem_cons_succ, Act.put, List.setIfInBounds_toArray, List.set_cons_zero, List.set_cons_succ]
      refine wpAnyH_done (by kernel_rfl) ?_ _
      have HTW := Lib.hid hHeld.2.2.2.2.2.2.2.2.2.2.2.2.2.2.2.2.out
      go_wp2_with fail
      go_meet
      case rel => exact ⟨rfl, HTW⟩
    · rw [if_pos (by kernel_rfl)]
      go_simp
      have G2 : (w14.drew.alloc (.cells #[.int .u8 0, .string ⟨#[100, 97, 121]⟩, .slice none 0 0, .slice none 0 0] 31)).heap[w14.heap.size]? = some (.cells #[.int .u8 0, .string ⟨#[100, 97, 121]⟩, .slice none 0 0, .slice none 0 0] 31 (0, 0)) := al_new w14.drew _
      first | refine hK.out _ _ ?_ (fun hHeld => ?_) | (go_wp2_with fail; refine hK.out _ _ ?_ (fun hHeld => ?_))
      · exact (by first | exact HS.out _ (hHeld.2.2.2.2.2.2.2.2.2.2.2.2.2.2.2.2.out.keep q) | exact HS.out _ (hHeld.2.2.2.2.2.2.2.2.2.2.2.2.2.2.2.2.out.keep ((Below.refl _ _).alloc (Nat.le_refl _) _)))
      clear hK K
      try simp only [List.getElem_toArray, List.getElem_cons_zero, List.getElem_cons_succ, Act.put, List.setIfInBounds_toArray, List.set_cons_zero, List.set_cons_succ]
      refine wpAnyH_ready (rs := [8]) (by kernel_rfl) (by simp) ?_
      refine AllReadyH.cons (o := _) rfl (fun K hK => ?_) AllReadyH.nil
      rw [if_pos (by kernel_rfl)]
      go_simp
      have G1 : ((w14.drew.alloc (.cells #[.int .u8 0, .string ⟨#[100, 97, 121]⟩, .slice none 0 0, .slice none 0 0] 31)).alloc (.cells #[.int .i64 3] 2)).heap[w14.heap.size + 1]? = some (.cells #[.int .i64 3] 2 (0, 0)) := (by have h := al_new (w14.drew.alloc (.cells #[.int .u8 0, .string ⟨#[100, 97, 121]⟩, .slice none 0 0, .slice none 0 0] 31)) (.cells #[.int .i64 3] 2); simpa using h)
      have G2 := blk_below G2 ((Below.refl _ _).alloc (Nat.le_refl _) (.cells #[.int .i64 3] 2))
      first | refine hK.out _ _ ?_ (fun hHeld => ?_) | (go_wp2_with fail; refine hK.out _ _ ?_ (fun hHeld => ?_))
      · exact (by first | exact HS.out _ (hHeld.2.2.2.2.2.2.2.2.2.2.2.2.2.2.2.2.out.keep q) | exact HS.out _ (hHeld.2.2.2.2.2.2.2.2.2.2.2.2.2.2.2.2.out.keep ((Below.refl _ _).alloc (Nat.le_refl _) _)))
      clear hK K
      try simp only [List.getElem_toArray, List.getElem_cons_zero, List.getElem_cons_succ, Act.put, List.setIfInBounds_toArray, List.set_cons_zero, List.set_cons_succ]
      refine wpAnyH_ready (rs := [11]) (by kernel_rfl) (by simp) ?_
      refine AllReadyH.cons (o := _) rfl (fun K hK => ?_) AllReadyH.nil
      rw [if_pos (by kernel_rfl)]
      go_simp
      (go_at_call 26; (with_reducible refine (made_any 1 _ _ _ _ _ _ _ _ _ rfl rfl).mono ?_); rintro e z1 ⟨rfl, q⟩; have G1 := blk_below G1 q; have G2 := blk_below G2 q)
      first | refine hK.out _ _ ?_ (fun hHeld => ?_) | (go_wp2_with fail; refine hK.out _ _ ?_ (fun hHeld => ?_))
      · exact (by first | exact HS.out _ (hHeld.2.2.2.2.2.2.2.2.2.2.2.2.2.2.2.2.out.keep q) | exact HS.out _ (hHeld.2.2.2.2.2.2.2.2.2.2.2.2.2.2.2.2.out.keep ((Below.refl _ _).alloc (Nat.le_refl _) _)))
      clear hK K
      try simp only [List.getElem_toArray, List.getElem_cons_zero, List.getElem_cons_succ, Act.put, List.setIfInBounds_toArray, List.set_cons_zero, List.set_cons_succ]
      refine wpAnyH_ready (rs := [12]) (by kernel_rfl) (by simp) ?_
      refine AllReadyH.cons (o := _) rfl (fun K hK => ?_) AllReadyH.nil
      rw [if_pos (by kernel_rfl)]
      go_simp
      (go_at_call 17; (with_reducible refine (rsame_any 41 (.agg #[.int .u8 zA.p.op, .string zA.p.nm, .slice zA.an zA.nn zA.nc, .slice zA.aa zA.p.k zA.ac]) (tour FA) 2 _ (tour FA) _ hHeld.2.2.2.2.2.2.2.2.2.2.2.2.2.2.2.2.out.a0.eA (fa_made G1 G2) true ⟨fun _ => rfl, fun _ => rfl⟩).mono ?_); rintro e z2 ⟨rfl, q⟩; clear G1 G2)
      first | refine hK.out _ _ ?_ (fun hHeld => ?_) | (go_wp2_with fail; refine hK.out _ _ ?_ (fun hHeld => ?_))
      · exact (by first | exact HS.out _ (hHeld.2.2.2.2.2.2.2.2.2.2.2.2.2.2.2.2.out.keep q) | exact HS.out _ (hHeld.2.2.2.2.2.2.2.2.2.2.2.2.2.2.2.2.out.keep ((Below.refl _ _).alloc (Nat.le_refl _) _)))
      clear hK K
      try simp only [List.getElem_toArray, List.getElem_cons_zero, List.getElem_cons_succ, Act.put, List.setIfInBounds_toArray, List.set_cons_zero, List.set_cons_succ]
      refine wpAnyH_take (i := 13) (oi := _) (v := ?_) rfl (by kernel_rfl) (by kernel_rfl) (by kernel_rfl) (fun _ _ _ h => h) (Or.inl ⟨by kernel_rfl, ?_⟩) (by assumption) ?_
      rotate_left 1
      focus (intro wq hSw; (try dsimp only at hSw); obtain ⟨s0, s1, s2, s3, s4, s5, s6, s7, s8, s9, s10, s11, s12, s13, s14, s15, s16⟩ := hSw; go_simp; (try with_reducible rfl); done)
      try simp only [List.getElem_toArray, List.getElem_cons_zero, List.getElem_cons_succ, Act.put, List.setIfInBounds_toArray, List.set_cons_zero, List.set_cons_succ]
      refine wpAnyH_take (i := 14) (oi := _) (v := ?_) rfl (by kernel_rfl) (by kernel_rfl) (by kernel_rfl) (fun _ _ _ h => h) (Or.inl ⟨by kernel_rfl, ?_⟩) (by assumption) ?_
      rotate_left 1
      focus (intro wq hSw; (try dsimp only at hSw); obtain ⟨s0, s1, s2, s3, s4, s5, s6, s7, s8, s9, s10, s11, s12, s13, s14, s15, s16⟩ := hSw; go_simp; (try with_reducible rfl); done)
      try simp only [List.getElem_toArray, List.getElem_cons_zero, List.getElem_cons_succ, Act.put, List.setIfInBounds_toArray, List.set_cons_zero, List.set_cons_succ]
      refine wpAnyH_take (i := 15) (oi := _) (v := ?_) rfl (by kernel_rfl) (by kernel_rfl) (by kernel_rfl) (fun _ _ _ h => h) (Or.inl ⟨by kernel_rfl, ?_⟩) (by assumption) ?_
      rotate_left 1
      focus (intro wq hSw; (try dsimp only at hSw); obtain ⟨s0, s1, s2, s3, s4, s5, s6, s7, s8, s9, s10, s11, s12, s13, s14, s15, s16⟩ := hSw; go_simp; (try with_reducible rfl); done)
      try simp only [List.getElem_toArray, List.getElem_cons_zero, List.getElem_cons_succ, Act.put, List.setIfInBounds_toArray, List.set_cons_zero, List.set_cons_succ]
      refine wpAnyH_take (i := 16) (oi := _) (v := ?_) rfl (by kernel_rfl) (by kernel_rfl) (by kernel_rfl) (fun _ _ _ h => h) (Or.inl ⟨by kernel_rfl, ?_⟩) (by assumption) ?_
      rotate_left 1
      focus (intro wq hSw; (try dsimp only at hSw); obtain ⟨s0, s1, s2, s3, s4, s5, s6, s7, s8, s9, s10, s11, s12, s13, s14, s15, s16⟩ := hSw; go_simp; (try with_reducible rfl); done)
      try simp only [List.getElem_toArray, List.getElem_cons_zero, List.getElem_cons_succ, Act.put, List.setIfInBounds_toArray, List.set_cons_zero, List.set_cons_succ]
      refine wpAnyH_take (i := 17) (oi := _) (v := ?_) rfl (by kernel_rfl) (by kernel_rfl) (by kernel_rfl) (fun _ _ _ h => h) (Or.inl ⟨by kernel_rfl, ?_⟩) (by assumption) ?_
      rotate_left 1
      focus (intro wq hSw; (try dsimp only at hSw); obtain ⟨s0, s1, s2, s3, s4, s5, s6, s7, s8, s9, s10, s11, s12, s13, s14, s15, s16⟩ := hSw; go_simp; (try with_reducible rfl); done)
      try simp only [List.getElem_toArray, List.getElem_cons_zero, List.getElem_cons_succ, Act.put, List.setIfInBounds_toArray, List.set_cons_zero, List.set_cons_succ]
      refine wpAnyH_take (i := 18) (oi := _) (v := ?_) rfl (by kernel_rfl) (by kernel_rfl) (by kernel_rfl) (fun _ _ _ h => h) (Or.inl ⟨by kernel_rfl, ?_⟩) (by assumption) ?_
      rotate_left 1
      focus (intro wq hSw; (try dsimp only at hSw); obtain ⟨s0, s1, s2, s3, s4, s5, s6, s7, s8, s9, s10, s11, s12, s13, s14, s15, s16⟩ := hSw; go_simp; (try with_reducible rfl); done)
      try simp only [List.getElem_toArray, List.getElem_cons_zero, List.getElem_cons_succ, Act.put, List.setIfInBounds_toArray, List.set_cons_zero, List.set_cons_succ]
      refine wpAnyH_take (i := 19) (oi := _) (v := ?_) rfl (by kernel_rfl) (by kernel_rfl) (by kernel_rfl) (fun _ _ _ h => h) (Or.inl ⟨by kernel_rfl, ?_⟩) (by assumption) ?_
      rotate_left 1
      focus (intro wq hSw; (try dsimp only at hSw); obtain ⟨s0, s1, s2, s3, s4, s5, s6, s7, s8, s9, s10, s11, s12, s13, s14, s15, s16⟩ := hSw; go_simp; (try with_reducible rfl); done)
      try simp only [List.getElem_toArray, List.getElem_cons_zero, List.getElem_cons_succ, Act.put, List.setIfInBounds_toArray, List.set_cons_zero, List.set_cons_succ]
      refine wpAnyH_take (i := 20) (oi := _) (v := ?_) rfl (by kernel_rfl) (by kernel_rfl) (by kernel_rfl) (fun _ _ _ h => h) (Or.inl ⟨by kernel_rfl, ?_⟩) (by assumption) ?_
      rotate_left 1
      focus (intro wq hSw; (try dsimp only at hSw); obtain ⟨s0, s1, s2, s3, s4, s5, s6, s7, s8, s9, s10, s11, s12, s13, s14, s15, s16⟩ := hSw; go_simp; (try with_reducible rfl); done)
      try simp only [List.getElem_toArray, List.getElem_cons_zero, List.getElem_cons_succ, Act.put, List.setIfInBounds_toArray, List.set_cons_zero, List.set_cons_succ]
      refine wpAnyH_take (i := 21) (oi := _) (v := ?_) rfl (by kernel_rfl) (by kernel_rfl) (by kernel_rfl) (fun _ _ _ h => h) (Or.inl ⟨by kernel_rfl, ?_⟩) (by assumption) ?_
      rotate_left 1
      focus (intro wq hSw; (try dsimp only at hSw); obtain ⟨s0, s1, s2, s3, s4, s5, s6, s7, s8, s9, s10, s11, s12, s13, s14, s15, s16⟩ := hSw; go_simp; (try with_reducible rfl); done)
      try simp only [List.getElem_toArray, List.getElem_cons_zero, List.getElem_cons_succ, Act.put, List.setIfInBounds_toArray, List.set_cons_zero, List.set_cons_succ]
      refine wpAnyH_take (i := 22) (oi := _) (v := ?_) rfl (by kernel_rfl) (by kernel_rfl) (by kernel_rfl) (fun _ _ _ h => h) (Or.inl ⟨by kernel_rfl, ?_⟩) (by assumption) ?_
      rotate_left 1
      focus (intro wq hSw; (try dsimp only at hSw); obtain ⟨s0, s1, s2, s3, s4, s5, s6, s7, s8, s9, s10, s11, s12, s13, s14, s15, s16⟩ := hSw; go_simp; (try with_reducible rfl); done)
      try simp only [List.getElem_toArray, List.getElem_cons_zero, List.getElem_cons_succ, Act.put, List.setIfInBounds_toArray, List.set_cons_zero, List.set_cons_succ]
      refine wpAnyH_take (i := 23) (oi := _) (v := ?_) rfl (by kernel_rfl) (by kernel_rfl) (by kernel_rfl) (fun _ _ _ h => h) (Or.inl ⟨by kernel_rfl, ?_⟩) (by assumption) ?_
      rotate_left 1
      focus (intro wq hSw; (try dsimp only at hSw); obtain ⟨s0, s1, s2, s3, s4, s5, s6, s7, s8, s9, s10, s11, s12, s13, s14, s15, s16⟩ := hSw; go_simp; (try with_reducible rfl); done)
      try simp only [List.getElem_toArray, List.getElem_cons_zero, List.getElem_cons_succ, Act.put, List.setIfInBounds_toArray, List.set_cons_zero, List.set_cons_succ]
      refine wpAnyH_take (i := 24) (oi := _) (v := ?_) rfl (by kernel_rfl) (by kernel_rfl) (by kernel_rfl) (fun _ _ _ h => h) (Or.inl ⟨by kernel_rfl, ?_⟩) (by assumption) ?_
      rotate_left 1
      focus (intro wq hSw; (try dsimp only at hSw); obtain ⟨s0, s1, s2, s3, s4, s5, s6, s7, s8, s9, s10, s11, s12, s13, s14, s15, s16⟩ := hSw; go_simp; (try with_reducible rfl); done)
      try simp only [List.getElem_toArray, List.getElem_cons_zero, List.getElem_cons_succ, Act.put, List.setIfInBounds_toArray, List.set_cons_zero, List.set_cons_succ]
      refine wpAnyH_take (i := 25) (oi := _) (v := ?_) rfl (by kernel_rfl) (by kernel_rfl) (by kernel_rfl) (fun _ _ _ h => h) (Or.inl ⟨by kernel_rfl, ?_⟩) (by assumption) ?_
      rotate_left 1
      focus (intro wq hSw; (try dsimp only at hSw); obtain ⟨s0, s1, s2, s3, s4, s5, s6, s7, s8, s9, s10, s11, s12, s13, s14, s15, s16⟩ := hSw; go_simp; (try with_reducible rfl); done)
      try simp only [List.getElem_toArray, List.getElem_cons_zero, List.getElem_cons_succ, Act.put, List.setIfInBounds_toArray, List.set_cons_zero, List.set_cons_succ]
      refine wpAnyH_ready (rs := [26]) (by kernel_rfl) (by simp) ?_
      refine AllReadyH.cons (o := _) rfl (fun K hK => ?_) AllReadyH.nil
      rw [if_pos (by kernel_rfl)]
      go_simp
      (go_at_call 17; (with_reducible refine (rsame_any 41 (.agg #[.int .u8 zB.p.op, .string zB.p.nm, .slice zB.an zB.nn zB.nc, .slice zB.aa zB.p.k zB.ac]) (tour FB) 3 _ (tour FB) _ hHeld.2.2.2.2.2.2.2.2.2.2.2.2.2.2.2.2.out.a0.eB hHeld.2.2.2.2.2.2.2.2.2.2.2.2.2.2.2.2.out.e8 true ⟨fun _ => rfl, fun _ => rfl⟩).mono ?_); rintro e z3 ⟨rfl, q⟩)
      first | refine hK.out _ _ ?_ (fun hHeld => ?_) | (go_wp2_with fail; refine hK.out _ _ ?_ (fun hHeld => ?_))
      · exact (by first | exact HS.out _ (hHeld.2.2.2.2.2.2.2.2.2.2.2.2.2.2.2.2.out.keep q) | exact HS.out _ (hHeld.2.2.2.2.2.2.2.2.2.2.2.2.2.2.2.2.out.keep ((Below.refl _ _).alloc (Nat.le_refl _) _)))
      clear hK K
      try simp only [List.getElem_toArray, List.getElem_cons_zero, List.getElem_cons_succ, Act.put, List.setIfInBounds_toArray, List.set_cons_zero, List.set_cons_succ]
      refine wpAnyH_take (i := 27) (oi := _) (v := ?_) rfl (by kernel_rfl) (by kernel_rfl) (by kernel_rfl) (fun _ _ _ h => h) (Or.inl ⟨by kernel_rfl, ?_⟩) (by assumption) ?_
      rotate_left 1
      focus (intro wq hSw; (try dsimp only at hSw); obtain ⟨s0, s1, s2, s3, s4, s5, s6, s7, s8, s9, s10, s11, s12, s13, s14, s15, s16⟩ := hSw; go_simp; (try with_reducible rfl); done)
      try simp only [List.getElem_toArray, List.getElem_cons_zero, List.getElem_cons_succ, Act.put, List.setIfInBounds_toArray, List.set_cons_zero, List.set_cons_succ]
      refine wpAnyH_take (i := 28) (oi := _) (v := ?_) rfl (by kernel_rfl) (by kernel_rfl) (by kernel_rfl) (fun _ _ _ h => h) (Or.inl ⟨by kernel_rfl, ?_⟩) (by assumption) ?_
      rotate_left 1
      focus (intro wq hSw; (try dsimp only at hSw); obtain ⟨s0, s1, s2, s3, s4, s5, s6, s7, s8, s9, s10, s11, s12, s13, s14, s15, s16⟩ := hSw; go_simp; (try with_reducible rfl); done)
      try simp only [List.getElem_toArray, List.getElem_cons_zero, List.getElem_cons_succ, Act.put, List.setIfInBounds_toArray, List.set_cons_zero, List.set_cons_succ]
      refine wpAnyH_done (by kernel_rfl) ?_ _
      have HTW := Lib.hid hHeld.2.2.2.2.2.2.2.2.2.2.2.2.2.2.2.2.out
      go_wp2_with fail
      go_meet
      case rel => exact ⟨rfl, HTW⟩
  case rest =>
    obtain ⟨rfl, HA⟩ := hcut
    have HB := Lib.hid HA.out.a0.bw
    clear HA HS
    obtain ⟨bs, hbs⟩ : ∃ z, wc.heap.size = z := ⟨_, rfl⟩
    obtain ⟨ws, hws⟩ : ∃ z, wc.alloc (.cells #[.string ⟨#[103, 114, 111, 117, 112, 40, 100, 97, 121, 41]⟩, .int .i64 2, .string ⟨#[103, 114, 111, 117, 112, 40, 51, 44, 32, 100, 97, 121]⟩, .int .i64 5, .string ⟨#[97, 32, 98]⟩, .int .i64 1, .string ⟨#[]⟩, .int .i64 0] 60) = z := ⟨_, rfl⟩
    have KA := Lib.hid (show Below wc.heap.size wc ws by rw [← hws]; exact (Below.refl _ wc).alloc (Nat.le_refl _) _)
    have XS : Hid (ws.heap[bs]? = some (.cells #[.string ⟨#[103, 114, 111, 117, 112, 40, 100, 97, 121, 41]⟩, .int .i64 2, .string ⟨#[103, 114, 111, 117, 112, 40, 51, 44, 32, 100, 97, 121]⟩, .int .i64 5, .string ⟨#[97, 32, 98]⟩, .int .i64 1, .string ⟨#[]⟩, .int .i64 0] 60 (0, 0))) := Lib.hid (by rw [← hws, ← hbs, al_new])
    have HB := Lib.hid (HB.out.trans (KA.out.mono HB.out.size))
    go_upto_region 8 with fail
    clear hbs hws KA
    go_loopw [10, 11, 12, 13, 82] (fun s10 s11 s12 s13 ii wr => ∃ j : Nat, j ≤ 4 ∧ ii = .int .i64 j ∧ Hid (Below w.heap.size w wr) ∧ Hid (wr.heap[bs]? = some (.cells #[.string ⟨#[103, 114, 111, 117, 112, 40, 100, 97, 121, 41]⟩, .int .i64 2, .string ⟨#[103, 114, 111, 117, 112, 40, 51, 44, 32, 100, 97, 121]⟩, .int .i64 5, .string ⟨#[97, 32, 98]⟩, .int .i64 1, .string ⟨#[]⟩, .int .i64 0] 60 (0, 0)))) (fun _ _ _ _ ii _ => 4 - (intOf ii).toNat)
    case atStart => exact ⟨0, Nat.zero_le _, rfl, HB, XS⟩
    case round =>
      clear HB XS
      obtain ⟨j, hj, rfl, HB, XS⟩ := hrel
      have j0 : (0 : Int) ≤ (j : Int) := by omega
      by_cases jlt : j < 4
      · have j1 : (j : Int) < 4 := by omega
        have c0 : wr.cell? ⟨bs, j * 2, none⟩ = some (.string (lsS j)) ∧ wr.cell? ⟨bs, j * 2 + 1, none⟩ = some (.int .i64 (lsA j)) := by
          have : j = 0 ∨ j = 1 ∨ j = 2 ∨ j = 3 := by omega
          rcases this with rfl | rfl | rfl | rfl <;> exact ⟨cell_blk XS.out _, cell_blk XS.out _⟩
        obtain ⟨c0, c1⟩ := c0
        obtain ⟨bl, hbl⟩ : ∃ z, wr.heap.size = z := ⟨_, rfl⟩
        obtain ⟨wl, hwl⟩ : ∃ z, wr.alloc (.cells #[.string (lsS j), .int .i64 (lsA j)] 60) = z := ⟨_, rfl⟩
        have KA := Lib.hid (show Below wr.heap.size wr wl by rw [← hwl]; exact (Below.refl _ wr).alloc (Nat.le_refl _) _)
        have XL : Hid (wl.heap[bl]? = some (.cells #[.string (lsS j), .int .i64 (lsA j)] 60 (0, 0))) := Lib.hid (by rw [← hwl, ← hbl, al_new])
        have HB := Lib.hid (HB.out.trans (KA.out.mono HB.out.size))
        have XS := Lib.hid (blk_below XS.out KA.out)
        have CLL := Lib.hid (CL.out j wl HB.out)
        obtain ⟨sj, hsj⟩ : ∃ z, lsS j = z := ⟨_, rfl⟩
        obtain ⟨aj, haj⟩ : ∃ z, lsA j = z := ⟨_, rfl⟩
        rw [hsj, haj] at XL CLL hwl
        rw [hsj] at c0
        rw [haj] at c1
        have HWX := Lib.hid hwl
        have HBX := Lib.hid hbl
        clear KA hwl hbl hsj haj
        go_upto_region 10 with fail
        rw [HWX.out, HBX.out]
        clear HWX HBX c0 c1
        have d0 := cell_blk XL.out 0
        have d1 := cell_blk XL.out 1
        go_wp2_with fail
        (with_reducible refine CLL.out.mono ?_)
        rintro e wm ⟨z, rfl, q⟩
        have XL := Lib.hid (blk_below XL.out q.out)
        have XS := Lib.hid (blk_below XS.out q.out)
        have HB := Lib.hid (HB.out.trans (q.out.mono HB.out.size))
        clear CLL d0 d1 q
        obtain ⟨wn, hwn⟩ : ∃ y, wm.alloc (.cells #[.int .u8 z.p.op, .string z.p.nm, .slice z.an z.nn z.nc, .slice z.aa z.p.k z.ac] 31) = y := ⟨_, rfl⟩
        have KA := Lib.hid (show Below wm.heap.size wm wn by rw [← hwn]; exact (Below.refl _ wm).alloc (Nat.le_refl _) _)
        have XL := Lib.hid (blk_below XL.out KA.out)
        have XS := Lib.hid (blk_below XS.out KA.out)
        have HB := Lib.hid (HB.out.trans (KA.out.mono HB.out.size))
        have HWX := Lib.hid hwn
        clear hwn KA
        go_upto_region 11 with fail
        rw [HWX.out]
        clear HWX
        have d1 := cell_blk XL.out 1
        go_wp2
        go_roundw
        case rel => exact ⟨j + 1, by omega, by go_num, HB, XS⟩
        case measure => simp [intOf]; omega
      · obtain rfl : j = 4 := by omega
        clear XS CL jlt hj j0
        have CC := Lib.hid (CG.out _ HB.out)
        go_wp2_with fail
        (with_reducible refine CC.out.mono ?_)
        rintro e wp1 ⟨z1, rfl, q, EX⟩
        have HB := Lib.hid (HB.out.trans (q.out.mono HB.out.size))
        have NM1 := Lib.hid (ex_top EX.out).2.1
        clear CC q EX CG
        obtain ⟨bx1, hb1⟩ : ∃ y, wp1.heap.size = y := ⟨_, rfl⟩
        obtain ⟨wq1, hw1⟩ : ∃ y, wp1.alloc (.cells #[.int .u8 z1.p.op, .string z1.p.nm, .slice z1.an z1.nn z1.nc, .slice z1.aa z1.p.k z1.ac] 31) = y := ⟨_, rfl⟩
        have KA := Lib.hid (show Below wp1.heap.size wp1 wq1 by rw [← hw1]; exact (Below.refl _ wp1).alloc (Nat.le_refl _) _)
        have X1 : Hid (wq1.heap[bx1]? = some (.cells #[.int .u8 z1.p.op, .string z1.p.nm, .slice z1.an z1.nn z1.nc, .slice z1.aa z1.p.k z1.ac] 31 (0, 0))) := Lib.hid (by rw [← hw1, ← hb1, al_new])
        have HB := Lib.hid (HB.out.trans (KA.out.mono HB.out.size))
        have HWX := Lib.hid hw1
        have HBX := Lib.hid hb1
        clear KA hw1 hb1
        go_upto_region 15 with fail
        rw [HWX.out, HBX.out]
        clear HWX HBX
        have CC := Lib.hid (CH.out _ HB.out)
        go_wp2_with fail
        (with_reducible refine CC.out.mono ?_)
        rintro e wp2 ⟨an2, cn2, am2, cm2, z2, rfl, q, ST2, EX⟩
        have HB := Lib.hid (HB.out.trans (q.out.mono HB.out.size))
        have X1 := Lib.hid (blk_below X1.out q.out)
        clear CC q EX CH
        obtain ⟨bx2, hb2⟩ : ∃ y, wp2.heap.size = y := ⟨_, rfl⟩
        obtain ⟨wq2, hw2⟩ : ∃ y, wp2.alloc (.cells #[.string ⟨#[98, 111, 117, 110, 100]⟩, .slice an2 3 cn2, .slice am2 0 cm2, .int .i64 1, .int .i64 0, .bool true, .bool false, .int .u8 z2.p.op, .string z2.p.nm, .slice z2.an z2.nn z2.nc, .slice z2.aa z2.p.k z2.ac] 39) = y := ⟨_, rfl⟩
        have KA := Lib.hid (show Below wp2.heap.size wp2 wq2 by rw [← hw2]; exact (Below.refl _ wp2).alloc (Nat.le_refl _) _)
        have X2 : Hid (wq2.heap[bx2]? = some (.cells #[.string ⟨#[98, 111, 117, 110, 100]⟩, .slice an2 3 cn2, .slice am2 0 cm2, .int .i64 1, .int .i64 0, .bool true, .bool false, .int .u8 z2.p.op, .string z2.p.nm, .slice z2.an z2.nn z2.nc, .slice z2.aa z2.p.k z2.ac] 39 (0, 0))) := Lib.hid (by rw [← hw2, ← hb2, al_new])
        have X1 := Lib.hid (blk_below X1.out KA.out)
        have ST2 := Lib.hid (ST2.out.keep KA.out)
        have HB := Lib.hid (HB.out.trans (KA.out.mono HB.out.size))
        have HWX := Lib.hid hw2
        have HBX := Lib.hid hb2
        clear KA hw2 hb2
        go_upto_region 16 with fail
        rw [HWX.out, HBX.out]
        clear HWX HBX
        have CC := Lib.hid (CI.out _ HB.out)
        go_wp2_with fail
        (with_reducible refine CC.out.mono ?_)
        rintro e wp3 ⟨an3, cn3, am3, cm3, z3, rfl, q, ST3, EX⟩
        have HB := Lib.hid (HB.out.trans (q.out.mono HB.out.size))
        have X1 := Lib.hid (blk_below X1.out q.out)
        have X2 := Lib.hid (blk_below X2.out q.out)
        have ST2 := Lib.hid (ST2.out.keep q.out)
        clear ST3
        have NM3 := Lib.hid (ex_top EX.out).2.1
        clear CC q EX CI
        obtain ⟨bx3, hb3⟩ : ∃ y, wp3.heap.size = y := ⟨_, rfl⟩
        obtain ⟨wq3, hw3⟩ : ∃ y, wp3.alloc (.cells #[.string ⟨#[100, 101, 102, 105, 110, 101]⟩, .slice an3 1 cn3, .slice am3 0 cm3, .int .i64 0, .int .i64 0, .bool false, .bool false, .int .u8 z3.p.op, .string z3.p.nm, .slice z3.an z3.nn z3.nc, .slice z3.aa z3.p.k z3.ac] 39) = y := ⟨_, rfl⟩
        have KA := Lib.hid (show Below wp3.heap.size wp3 wq3 by rw [← hw3]; exact (Below.refl _ wp3).alloc (Nat.le_refl _) _)
        have X3 : Hid (wq3.heap[bx3]? = some (.cells #[.string ⟨#[100, 101, 102, 105, 110, 101]⟩, .slice an3 1 cn3, .slice am3 0 cm3, .int .i64 0, .int .i64 0, .bool false, .bool false, .int .u8 z3.p.op, .string z3.p.nm, .slice z3.an z3.nn z3.nc, .slice z3.aa z3.p.k z3.ac] 39 (0, 0))) := Lib.hid (by rw [← hw3, ← hb3, al_new])
        have X1 := Lib.hid (blk_below X1.out KA.out)
        have X2 := Lib.hid (blk_below X2.out KA.out)
        have ST2 := Lib.hid (ST2.out.keep KA.out)
        have HB := Lib.hid (HB.out.trans (KA.out.mono HB.out.size))
        have HWX := Lib.hid hw3
        have HBX := Lib.hid hb3
        clear KA hw3 hb3
        go_upto_region 17 with fail
        rw [HWX.out, HBX.out]
        clear HWX HBX
        have CC := Lib.hid (CJ.out _ HB.out)
        go_wp2_with fail
        (with_reducible refine CC.out.mono ?_)
        rintro e wp4 ⟨an4, cn4, am4, cm4, z4, rfl, q, ST4, EX⟩
        have HB := Lib.hid (HB.out.trans (q.out.mono HB.out.size))
        have X1 := Lib.hid (blk_below X1.out q.out)
        have X2 := Lib.hid (blk_below X2.out q.out)
        have X3 := Lib.hid (blk_below X3.out q.out)
        have ST2 := Lib.hid (ST2.out.keep q.out)
        clear ST4
        clear CC q EX CJ
        obtain ⟨bx4, hb4⟩ : ∃ y, wp4.heap.size = y := ⟨_, rfl⟩
        obtain ⟨wq4, hw4⟩ : ∃ y, wp4.alloc (.cells #[.string ⟨#[]⟩, .slice an4 0 cn4, .slice am4 0 cm4, .int .i64 0, .int .i64 0, .bool false, .bool false, .int .u8 z4.p.op, .string z4.p.nm, .slice z4.an z4.nn z4.nc, .slice z4.aa z4.p.k z4.ac] 39) = y := ⟨_, rfl⟩
        have KA := Lib.hid (show Below wp4.heap.size wp4 wq4 by rw [← hw4]; exact (Below.refl _ wp4).alloc (Nat.le_refl _) _)
        have X1 := Lib.hid (blk_below X1.out KA.out)
        have X2 := Lib.hid (blk_below X2.out KA.out)
        have X3 := Lib.hid (blk_below X3.out KA.out)
        have ST2 := Lib.hid (ST2.out.keep KA.out)
        have HB := Lib.hid (HB.out.trans (KA.out.mono HB.out.size))
        have HWX := Lib.hid hw4
        have HBX := Lib.hid hb4
        clear KA hw4 hb4
        go_upto_region 18 with fail
        rw [HWX.out, HBX.out]
        clear HWX HBX
        have CC := Lib.hid (CK.out _ HB.out)
        go_wp2_with fail
        (with_reducible refine CC.out.mono ?_)
        rintro e wp5 ⟨an5, cn5, am5, cm5, z5, rfl, q, ST5, EX⟩
        have HB := Lib.hid (HB.out.trans (q.out.mono HB.out.size))
        have X1 := Lib.hid (blk_below X1.out q.out)
        have X2 := Lib.hid (blk_below X2.out q.out)
        have X3 := Lib.hid (blk_below X3.out q.out)
        have ST2 := Lib.hid (ST2.out.keep q.out)
        clear ST5
        clear CC q EX CK
        obtain ⟨bx5, hb5⟩ : ∃ y, wp5.heap.size = y := ⟨_, rfl⟩
        obtain ⟨wq5, hw5⟩ : ∃ y, wp5.alloc (.cells #[.string ⟨#[]⟩, .slice an5 0 cn5, .slice am5 0 cm5, .int .i64 0, .int .i64 0, .bool false, .bool false, .int .u8 z5.p.op, .string z5.p.nm, .slice z5.an z5.nn z5.nc, .slice z5.aa z5.p.k z5.ac] 39) = y := ⟨_, rfl⟩
        have KA := Lib.hid (show Below wp5.heap.size wp5 wq5 by rw [← hw5]; exact (Below.refl _ wp5).alloc (Nat.le_refl _) _)
        have X1 := Lib.hid (blk_below X1.out KA.out)
        have X2 := Lib.hid (blk_below X2.out KA.out)
        have X3 := Lib.hid (blk_below X3.out KA.out)
        have ST2 := Lib.hid (ST2.out.keep KA.out)
        have HB := Lib.hid (HB.out.trans (KA.out.mono HB.out.size))
        have HWX := Lib.hid hw5
        have HBX := Lib.hid hb5
        clear KA hw5 hb5
        go_upto_region 19 with fail
        rw [HWX.out, HBX.out]
        clear HWX HBX
        have n1 : wq5.cell? ⟨bx1, 1, none⟩ = some (.string ⟨#[103, 114, 111, 117, 112]⟩) := by rw [← NM1.out]; exact cell_blk X1.out 1
        have h1 : wq5.cell? ⟨bx2, 1, none⟩ = some (.slice an2 3 cn2) := cell_blk X2.out 1
        obtain ⟨rs, hrs⟩ : ∃ y, wq5.heap.size = y := ⟨_, rfl⟩
        obtain ⟨wr5, hwr⟩ : ∃ y, wq5.alloc (.cells #[.string ⟨#[120]⟩, .string ⟨#[121]⟩, .string ⟨#[100, 97, 121]⟩] 9) = y := ⟨_, rfl⟩
        have KA := Lib.hid (show Below wq5.heap.size wq5 wr5 by rw [← hwr]; exact (Below.refl _ wq5).alloc (Nat.le_refl _) _)
        have XR : Hid (wr5.heap[rs]? = some (.cells #[.string ⟨#[120]⟩, .string ⟨#[121]⟩, .string ⟨#[100, 97, 121]⟩] 9 (0, 0))) := Lib.hid (by rw [← hwr, ← hrs, al_new])
        have ST2 := Lib.hid (ST2.out.keep KA.out)
        have X2 := Lib.hid (blk_below X2.out KA.out)
        have X3 := Lib.hid (blk_below X3.out KA.out)
        have HB := Lib.hid (HB.out.trans (KA.out.mono HB.out.size))
        have HS2 : Hid (StAt wr5 (some ⟨rs, 0, none⟩) 3 3 [⟨#[120]⟩, ⟨#[121]⟩, ⟨#[100, 97, 121]⟩]) := Lib.hid ⟨rfl, Nat.le_refl _, by omega, (fun e => by cases e), fun _ => ⟨rs, rfl, fun i hi => by
          have : i = 0 ∨ i = 1 ∨ i = 2 := by simp at hi; omega
          rcases this with rfl | rfl | rfl <;> exact cell_blk XR.out _⟩⟩
        have CT := Lib.hid (texts_same an2 (some ⟨rs, 0, none⟩) 3 cn2 3 [⟨#[120]⟩, ⟨#[121]⟩, ⟨#[100, 97, 121]⟩] wr5 ST2.out HS2.out)
        clear XR HS2 ST2 KA
        go_wp2_with fail
        clear hrs hwr n1 h1
        (with_reducible refine CT.out.mono ?_)
        rintro e wt ⟨rfl, q⟩
        have X2 := Lib.hid (blk_below X2.out q)
        have X3 := Lib.hid (blk_below X3.out q)
        have HB := Lib.hid (HB.out.trans (q.mono HB.out.size))
        have r0 : wt.cell? ⟨bx2, 3, none⟩ = some (.int .i64 1) := cell_blk X2.out 3
        have r1 : wt.cell? ⟨bx2, 4, none⟩ = some (.int .i64 0) := cell_blk X2.out 4
        have r2 : wt.cell? ⟨bx2, 5, none⟩ = some (.bool true) := cell_blk X2.out 5
        have r3 : wt.cell? ⟨bx2, 6, none⟩ = some (.bool false) := cell_blk X2.out 6
        have n3 : wt.cell? ⟨bx3, 1, none⟩ = some (.slice an3 1 cn3) := cell_blk X3.out 1
        have n4 : wt.cell? ⟨bx3, 8, none⟩ = some (.string ⟨#[98]⟩) := by rw [← NM3.out]; exact cell_blk X3.out 8
        clear q CT
        go_wp2
        go_returns
        exact ⟨rfl, HB.out⟩
end Go.Proofs.YtllhcpkpbipjlaaDoor
