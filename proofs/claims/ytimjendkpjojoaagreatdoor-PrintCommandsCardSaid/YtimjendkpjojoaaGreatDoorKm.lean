/- X4, Y6 in one. -/
import Derived.Test.YtimjendkpjojoaaGreatDoorKl
import Derived.Test.YtimjendkpjojoaaGreatDoorKj
import Derived.Test.YtimjendkpjojoaaGreatDoorKh
import Derived.Laws.RangeString
namespace Go.Proofs.YtimjendkpjojoaaGreatDoor
set_option linter.unusedVariables false
set_option linter.unusedSimpArgs false
open Go.ChangeShapes Go.WideShapes Go.ChangeAt Go.RowKit

theorem join_sum : ∀ its : List (List UInt8), (Lx.lnL its).length ≤ (its.map (fun i => i.length + 2)).sum
  | [] => Nat.le_refl _
  | i :: r => by
    have h : ∀ l : List (List UInt8), (l.map (fun j => ([44, 32] : List UInt8) ++ j)).flatten.length = (l.map (fun i => i.length + 2)).sum := by
      intro l
      induction l with
      | nil => rfl
      | cons a b ih => simp only [List.map_cons, List.flatten_cons, List.length_append, List.sum_cons, ih, List.length_cons, List.length_nil]; omega
    unfold Lx.lnL
    simp only [List.length_append, List.map_cons, List.sum_cons, h, List.length_cons, List.length_nil]
    omega
theorem op_seven (i : Nat) : (Lx.opW.getD i []).length ≤ 7 := by
  match i with
  | 0 | 1 | 2 | 3 | 4 | 5 | 6 | 7 | 8 | 9 | 10 | 11 => decide
  | i + 12 => exact (show ([] : List UInt8).length ≤ 7 by decide)
/-- What numbers and names of a part may be. -/
def NB (p : Pt) : Prop := p.nm.size ≤ 30 ∧ ∀ z ∈ p.nums, -9223372036854775808 ≤ z ∧ z ≤ 9223372036854775807
theorem sum_nums : ∀ nu : List Int, (∀ z ∈ nu, -9223372036854775808 ≤ z ∧ z ≤ 9223372036854775807) → ((nu.map Lib.itoa).map (fun i => i.length + 2)).sum ≤ 23 * nu.length
  | [], _ => Nat.le_refl _
  | z :: r, h => by
    have a := Lib.itoa_length_le z (h z List.mem_cons_self).1 (h z List.mem_cons_self).2
    have b := sum_nums r (fun y hy => h y (List.mem_cons_of_mem _ hy))
    simp only [List.map_cons, List.sum_cons, List.length_cons]
    omega
theorem line_len : ∀ (k : Nat) (x : Lx.Ex) (d : Int), Lx.Ok k x → (∀ y ∈ tour x d, NB y.1) → (Lx.lineX x).length ≤ 200 * Lx.cnt x
  | 0, _, _, h, _ => h.elim
  | k + 1, .mk op nm nu xs, d, ho, hb => by
    have hb0 := hb _ (by rw [tour]; exact List.mem_cons_self)
    dsimp only [NB] at hb0
    have e1 : Lx.cnt (.mk op nm nu xs) = 1 + Lx.cnts xs := by rw [Lx.cnt]
    rw [e1]
    rcases ho with ⟨rfl, rfl, rfl⟩ | ⟨h1, h2, rfl, h3, h4, h5⟩
    · rw [Lx.line_leaf]
      have := hb0.1
      rw [len_toArray] at this
      omega
    · have hk : ∀ ys : List Lx.Ex, (∀ y ∈ ys, Lx.Ok k y ∧ ∀ z ∈ tour y (d + 1), NB z.1) → ((ys.map Lx.lineX).map (fun i => i.length + 2)).sum ≤ 200 * Lx.cnts ys + 2 * ys.length := by
        intro ys
        induction ys with
        | nil => intro _; simp
        | cons y r ih =>
          intro h
          have a := line_len k y (d + 1) (h y List.mem_cons_self).1 (h y List.mem_cons_self).2
          have b := ih (fun z hz => h z (List.mem_cons_of_mem _ hz))
          have c : Lx.cnts (y :: r) = Lx.cnt y + Lx.cnts r := by rw [Lx.cnts]
          rw [c]
          simp only [List.map_cons, List.sum_cons, List.length_cons]
          omega
      have a := hk xs (fun y hy => ⟨h5 y hy, fun z hz => hb z (by rw [tour]; exact List.mem_cons_of_mem _ (tours_mem hy (d + 1) hz))⟩)
      have b := sum_nums nu hb0.2
      have hz : ¬ op = 0 := by omega
      rw [Lx.line_op hz, List.take_length]
      have c := join_sum (Lx.itemsL nu xs)
      unfold Lx.itemsL at c ⊢
      rw [List.map_append, List.sum_append] at c
      have o := op_seven (op.toNat - 1)
      have n := nuN_le op.toNat (by omega)
      simp only [List.length_append, List.length_cons, List.length_nil]
      omega
theorem fit_nb {p : Pt} (h : FitP p) (f : Fine p) : NB p := by
  refine ⟨?_, f.2.2⟩
  have := h.name
  by_cases e : p.op = 0
  · rw [if_pos e] at this; exact this.hi
  · rw [if_neg e] at this; rw [this]; decide
theorem right_len {w : World} {n : Nat} {v : Value} {x : Lx.Ex} (hE : ExAt w n v (tour x)) (h : RightL (tour x 1)) : Lx.Ok 40 x ∧ (Lx.lineX x).length ≤ 400000 := by
  have hf := ex_fine hE 1
  have ho := right_ok h hf
  refine ⟨ho.1, ?_⟩
  have := line_len 40 x 1 ho.1 (fun y hy => fit_nb (h.2 y hy).2 (hf y hy))
  have := ho.2
  omega
set_option maxRecDepth 8000 in
set_option maxHeartbeats 2000000 in
theorem pexpr_any (n : Nat) (v : Value) (x : Lx.Ex) (w : World) (hT : Tp w) (hE : ExAt w n v (tour x)) (r : Bool) (hr : r = true ↔ RightL (tour x 1)) :
    Calls Tryz.prog 7 #[v] w fun e w' => e = .returned (.tuple #[.string (if r = true then ⟨(Lx.lineX x).toArray⟩ else ⟨#[]⟩), .int .i64 (if r = true then 0 else 110)]) ∧ Below w.heap.size w w' := by
  have HR := Lib.hid (fun W (q : Below w.heap.size w W) => right_any n v (tour x) W (hT.needs.keep q) (hE.keep q) r hr)
  have HRL : Hid (r = true → Lx.Ok 40 x ∧ (Lx.lineX x).length ≤ 400000) := Lib.hid (fun q => right_len hE (hr.1 q))
  obtain ⟨p, an, nn, nc, aa, ac, rfl, hh⟩ := hE.head
  have HE := Lib.hid hE
  have HT := Lib.hid hT
  obtain ⟨bx, hbx⟩ : ∃ z, w.heap.size = z := ⟨_, rfl⟩
  obtain ⟨w1, hw1⟩ : ∃ z, w.alloc (.cells #[.int .u8 p.op, .string p.nm, .slice an nn nc, .slice aa p.k ac] 25) = z := ⟨_, rfl⟩
  have KA : Hid (Below w.heap.size w w1) := Lib.hid (by rw [← hw1]; exact (Below.refl _ w).alloc (Nat.le_refl _) _)
  have HX : Hid (w1.heap[bx]? = some (.cells #[.int .u8 p.op, .string p.nm, .slice an nn nc, .slice aa p.k ac] 25 (0, 0))) := Lib.hid (by rw [← hw1, ← hbx, al_new])
  clear hT hE hr hh
  have e0 := cell_blk HX.out 0
  have e1 := cell_blk HX.out 1
  have e2 := cell_blk HX.out 2
  have e3 := cell_blk HX.out 3
  go_enter Tryz.func7, Tryz.ntmps7
  go_upto_region 1 with fail
  clear hw1 hbx
  go_wp2_with fail
  (with_reducible refine (HR.out w1 KA.out).mono ?_)
  rintro e w2 ⟨rfl, q⟩
  have HX := Lib.hid ((q.block bx (Array.getElem?_eq_some_iff.1 HX.out).1).trans HX.out)
  have KA := Lib.hid (KA.out.trans (q.mono KA.out.size))
  clear q HR e0 e1 e2 e3
  cases r
  · go_wp2_with fail
    go_returns
    exact ⟨by simp, KA.out⟩
  · have HL := Lib.hid (HRL.out rfl)
    clear HRL
    obtain ⟨b, hb⟩ : ∃ z, w2.heap.size = z := ⟨_, rfl⟩
    obtain ⟨w3, hw3⟩ : ∃ z, w2.alloc (.cells #[.pointer none, .slice none 0 0] 56) = z := ⟨_, rfl⟩
    have KB : Below w2.heap.size w2 w3 := by rw [← hw3]; exact (Below.refl _ w2).alloc (Nat.le_refl _) _
    have HP : Hid (PrS w w3 b []) := Lib.hid ⟨KA.out.trans (KB.mono KA.out.size), by rw [← hb]; exact KA.out.size, by
      rw [← hw3, ← hb]; exact Lib.IsBuilderF.of (Lib.fresh_isBuilder 56 5 w2)⟩
    have HX := Lib.hid ((KB.block bx (Array.getElem?_eq_some_iff.1 HX.out).1).trans HX.out)
    have HW := Lib.hid (write_any w HT.out b 40 x n _ HE.out HL.out.1 w3 [] HP.out (by have := HL.out.2; simp; omega))
    have HLO : Hid (w.heap.size ≤ b) := Lib.hid HP.out.lo
    clear KB HP KA
    go_upto_region 4 with fail
    clear hw3 hb
    have e0 := cell_blk HX.out 0
    have e1 := cell_blk HX.out 1
    have e2 := cell_blk HX.out 2
    have e3 := cell_blk HX.out 3
    go_wp2_with fail
    (with_reducible refine HW.out.mono ?_)
    rintro e w4 ⟨rfl, HP4, HK4⟩
    clear HW HX HK4 e0 e1 e2 e3
    have HS := Lib.hid (Tryz.Builder_String_any_k b b ([] ++ Lx.lineX x) w4 HP4.out.ib (Nat.le_of_lt HP4.out.lt))
    have HBW := Lib.hid HP4.out.bw
    rw [List.nil_append] at HS
    clear HP4
    go_wp2_with fail
    (with_reducible refine HS.out.mono ?_)
    rintro e w5 ⟨rfl, _, q, _⟩
    have HBW := Lib.hid (HBW.out.trans (q.mono HLO.out))
    clear q HS
    go_wp2_with fail
    go_returns
    exact ⟨by simp, HBW.out⟩
def strV (x : List UInt8) : Value := .string ⟨x.toArray⟩
/-- The head of a part, as a value. -/
structure Hv where
  p : Pt
  an : Option Addr
  nn : Nat
  nc : Nat
  aa : Option Addr
  ac : Nat
def hV (h : Hv) : Value := pv h.p h.an h.nn h.nc h.aa h.ac
def hC (h : Hv) : List Value := [.int .u8 h.p.op, .string h.p.nm, .slice h.an h.nn h.nc, .slice h.aa h.p.k h.ac]
/-- The world with an iterator over a string set. -/
def nx (w : World) (ib : Nat) (s : ByteArray) (p : Nat) : World := { w with heap := w.heap.setIfInBounds ib (.stringIter s p) }
theorem nx_grown (w : World) (ib : Nat) (s : ByteArray) (p : Nat) : w.grownBy (nx w ib s p) (some ib) :=
  ⟨rfl, rfl, rfl, by simp [nx], fun q hq hne => by
    unfold nx
    rw [Array.getElem?_setIfInBounds_ne (fun e => hne (by rw [e]))]⟩
theorem nx_on {w : World} {ib : Nat} {o : Obj} (h : w.heap[ib]? = some o) (s : ByteArray) (p : Nat) : (nx w ib s p).heap[ib]? = some (.stringIter s p) := by
  unfold nx
  have := (Array.getElem?_eq_some_iff.1 h).1
  simp [this]
theorem run_next_at {w : World} {ib : Nat} {s : ByteArray} {pos : Nat} (hb : w.heap[ib]? = some (.stringIter s pos)) (ty : TypeId) (h : pos < s.size) (ha : (s[pos]'h).toNat < 128) :
    (Instr.next (.pointer (some ⟨ib, 0, none⟩)) true ty).run Tryz.prog w = .ok (.tuple #[.bool true, .int .i64 pos, .int .i32 (s[pos]'h).toNat]) (nx w ib s (pos + 1)) := by
  have hl := (Array.getElem?_eq_some_iff.1 hb).1
  simp only [Instr.next, getObj, setObj, Sem.run_bind, Sem.run, hb, Result.andThen, h, if_true, decode_ascii s pos h ha]
  simp [goInt, Sem.run, hb, nx]
theorem run_next_off {w : World} {ib : Nat} {s : ByteArray} {pos : Nat} (hb : w.heap[ib]? = some (.stringIter s pos)) (ty : TypeId) (h : ¬ pos < s.size) :
    (Instr.next (.pointer (some ⟨ib, 0, none⟩)) true ty).run Tryz.prog w = .ok (.tuple #[.bool false]) w := by
  simp [Instr.next, getObj, Sem.run, hb, h]
/-- Strings in memory, wherever they begin. -/
structure SAt (w : World) (ao : Option Addr) (n c : Nat) (l : List ByteArray) : Prop where
  len : l.length = n
  le : n ≤ c
  top : c ≤ 9223372036854775807
  here : 0 < n → ∃ b p, ao = some ⟨b, p, none⟩ ∧ ∀ i (h : i < l.length), w.cell? ⟨b, p + i, none⟩ = some (.string l[i])
theorem SAt.keep {w w' : World} {ao : Option Addr} {n c : Nat} {l : List ByteArray} (h : SAt w ao n c l) (k : Below w.heap.size w w') : SAt w' ao n c l :=
  ⟨h.len, h.le, h.top, fun h0 => by
    obtain ⟨b, p, e, hc⟩ := h.here h0
    exact ⟨b, p, e, fun i hi => cell_keep (hc i hi) k⟩⟩
theorem StAt.gen {w : World} {ao : Option Addr} {n c : Nat} {l : List ByteArray} (h : StAt w ao n c l) : SAt w ao n c l :=
  ⟨h.len, h.le, h.top, fun h0 => by
    obtain ⟨b, e, hc⟩ := h.here h0
    exact ⟨b, 0, e, fun i hi => by rw [Nat.zero_add]; exact hc i hi⟩⟩
/-- A command in memory, cell by cell. -/
structure Cg where
  wb : ByteArray
  an : Option Addr
  nl : Nat
  nc : Nat
  am : Option Addr
  ml : Nat
  mc : Nat
  lo : Int
  hi : Int
  hl : Bool
  hh : Bool
  z : Hv
def cgC (g : Cg) : Array Value := #[.string g.wb, .slice g.an g.nl g.nc, .slice g.am g.ml g.mc, .int .i64 g.lo, .int .i64 g.hi, .bool g.hl, .bool g.hh, .int .u8 g.z.p.op, .string g.z.p.nm, .slice g.z.an g.z.nn g.z.nc, .slice g.z.aa g.z.p.k g.z.ac]
structure CG (w : World) (D : Nat) (cm : Lx.Cm) (g : Cg) : Prop where
  wd : g.wb = ⟨cm.word.toArray⟩
  nn : SAt w g.an g.nl g.nc (cm.names.map (fun x => ⟨x.toArray⟩))
  mm : NAt w g.am g.ml g.mc cm.nums
  rg : cm.rg = ⟨g.lo, g.hi, g.hl, g.hh⟩
  ex : ExAt w D (hV g.z) (tour cm.ex)
theorem CG.keep {w w' : World} {D : Nat} {cm : Lx.Cm} {g : Cg} (h : CG w D cm g) (k : Below w.heap.size w w') : CG w' D cm g := ⟨h.wd, h.nn.keep k, h.mm.keep k, h.rg, h.ex.keep k⟩
theorem tour_eq (x y : Lx.Ex) : tour x = tour y ↔ x = y := ⟨fun h => (tour_inj x y 0 [] [] (by rw [h])).1, fun h => by rw [h]⟩
theorem cm_eq (a b : Lx.Cm) : a = b ↔ a.word = b.word ∧ a.names = b.names ∧ a.nums = b.nums ∧ a.rg = b.rg ∧ a.ex = b.ex := by
  constructor
  · rintro rfl; exact ⟨rfl, rfl, rfl, rfl, rfl⟩
  · rintro ⟨h1, h2, h3, h4, h5⟩
    cases a; cases b; simp_all
theorem word_eq (a b : List UInt8) : (⟨a.toArray⟩ : ByteArray).toList = (⟨b.toArray⟩ : ByteArray).toList ↔ a = b := by
  rw [ByteArray.toList_eq, ByteArray.toList_eq]
/-- A command has what its shape has, and nothing else. -/
structure RightC (cm : Lx.Cm) : Prop where
  ok : (Lx.shape cm.word).isSome = true
  nam : ∀ x ∈ cm.names, RName ⟨x.toArray⟩
  nn : cm.names.length = Lx.cN ((Lx.shape cm.word).getD [])
  mm : cm.nums.length = Lx.cI ((Lx.shape cm.word).getD [])
  lo : cm.rg.hl = false → cm.rg.low = 0
  hi : cm.rg.hh = false → cm.rg.high = 0
  rg : ¬ 114 ∈ (Lx.shape cm.word).getD [] → cm.rg = ⟨0, 0, false, false⟩
  ex0 : ¬ 101 ∈ (Lx.shape cm.word).getD [] → cm.ex = Lx.leaf []
  ex1 : 101 ∈ (Lx.shape cm.word).getD [] → RightL (tour cm.ex 1)
theorem shV_get (o : Option (List UInt8)) : shV o = .tuple #[.string ⟨(o.getD []).toArray⟩, .bool o.isSome] := by cases o <;> rfl
theorem shape_len (w : List UInt8) : ((Lx.shape w).getD []).length ≤ 4 ∧ ∀ x ∈ (Lx.shape w).getD [], x = 110 ∨ x = 105 ∨ x = 101 ∨ x = 61 ∨ x = 114 := by
  cases h : Lx.shape w with
  | none => exact ⟨Nat.zero_le _, fun x hx => by cases hx⟩
  | some sh => exact Lx.shape_let (Lx.shape_in h)
end Go.Proofs.YtimjendkpjojoaaGreatDoor
