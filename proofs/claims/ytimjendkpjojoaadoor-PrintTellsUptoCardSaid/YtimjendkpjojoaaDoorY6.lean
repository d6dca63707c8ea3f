/- A command in memory. -/
import Derived.Test.YtimjendkpjojoaaDoorY5
import Derived.Test.YtimjendkpjojoaaDoorX4
import Derived.Test.YtimjendkpjojoaaDoorE9
import Derived.Laws.RangeString
namespace Go.Proofs.YtimjendkpjojoaaDoor
set_option linter.unusedVariables false
set_option linter.unusedSimpArgs false
open Go.ChangeShapes Go.WideShapes Go.ChangeAt Go.RowKit
def strV (x : List UInt8) : Value := .string ⟨x.toArray⟩
/-- The head of a part, as a value. -/
structure Hv where
  p : Pt
  an : Option Addr
  nn : Nat
  nc : Nat
  aa : Option Addr
  ac : Nat
def hV (h : Hv) : Value := pv h.p h.an h.nn h.nc h.aa h.ac
def hC (h : Hv) : List Value := [.int .u8 h.p.op, .string h.p.nm, .slice h.an h.nn h.nc, .slice h.aa h.p.k h.ac]
/-- The world with an iterator over a string set. -/
def nx (w : World) (ib : Nat) (s : ByteArray) (p : Nat) : World := { w with heap := w.heap.setIfInBounds ib (.stringIter s p) }
theorem nx_grown (w : World) (ib : Nat) (s : ByteArray) (p : Nat) : w.grownBy (nx w ib s p) (some ib) :=
  ⟨rfl, rfl, rfl, by simp [nx], fun q hq hne => by
    unfold nx
    rw [Array.getElem?_setIfInBounds_ne (fun e => hne (by rw [e]))]⟩
theorem nx_on {w : World} {ib : Nat} {o : Obj} (h : w.heap[ib]? = some o) (s : ByteArray) (p : Nat) : (nx w ib s p).heap[ib]? = some (.stringIter s p) := by
  unfold nx
  have := (Array.getElem?_eq_some_iff.1 h).1
  simp [this]
theorem run_next_at {w : World} {ib : Nat} {s : ByteArray} {pos : Nat} (hb : w.heap[ib]? = some (.stringIter s pos)) (ty : TypeId) (h : pos < s.size) (ha : (s[pos]'h).toNat < 128) :
    (Instr.next (.pointer (some ⟨ib, 0, none⟩)) true ty).run Tryd.prog w = .ok (.tuple #[.bool true, .int .i64 pos, .int .i32 (s[pos]'h).toNat]) (nx w ib s (pos + 1)) := by
  have hl := (Array.getElem?_eq_some_iff.1 hb).1
  simp only [Instr.next, getObj, setObj, Sem.run_bind, Sem.run, hb, Result.andThen, h, if_true, decode_ascii s pos h ha]
  simp [goInt, Sem.run, hb, nx]
theorem run_next_off {w : World} {ib : Nat} {s : ByteArray} {pos : Nat} (hb : w.heap[ib]? = some (.stringIter s pos)) (ty : TypeId) (h : ¬ pos < s.size) :
    (Instr.next (.pointer (some ⟨ib, 0, none⟩)) true ty).run Tryd.prog w = .ok (.tuple #[.bool false]) w := by
  simp [Instr.next, getObj, Sem.run, hb, h]
/-- Strings in memory, wherever they begin. -/
structure SAt (w : World) (ao : Option Addr) (n c : Nat) (l : List ByteArray) : Prop where
  len : l.length = n
  le : n ≤ c
  top : c ≤ 9223372036854775807
  here : 0 < n → ∃ b p, ao = some ⟨b, p, none⟩ ∧ ∀ i (h : i < l.length), w.cell? ⟨b, p + i, none⟩ = some (.string l[i])
theorem SAt.keep {w w' : World} {ao : Option Addr} {n c : Nat} {l : List ByteArray} (h : SAt w ao n c l) (k : Below w.heap.size w w') : SAt w' ao n c l :=
  ⟨h.len, h.le, h.top, fun h0 => by
    obtain ⟨b, p, e, hc⟩ := h.here h0
    exact ⟨b, p, e, fun i hi => cell_keep (hc i hi) k⟩⟩
theorem StAt.gen {w : World} {ao : Option Addr} {n c : Nat} {l : List ByteArray} (h : StAt w ao n c l) : SAt w ao n c l :=
  ⟨h.len, h.le, h.top, fun h0 => by
    obtain ⟨b, e, hc⟩ := h.here h0
    exact ⟨b, 0, e, fun i hi => by rw [Nat.zero_add]; exact hc i hi⟩⟩
/-- A command in memory, cell by cell. -/
structure Cg where
  wb : ByteArray
  an : Option Addr
  nl : Nat
  nc : Nat
  am : Option Addr
  ml : Nat
  mc : Nat
  lo : Int
  hi : Int
  hl : Bool
  hh : Bool
  z : Hv
def cgC (g : Cg) : Array Value := #[.string g.wb, .slice g.an g.nl g.nc, .slice g.am g.ml g.mc, .int .i64 g.lo, .int .i64 g.hi, .bool g.hl, .bool g.hh, .int .u8 g.z.p.op, .string g.z.p.nm, .slice g.z.an g.z.nn g.z.nc, .slice g.z.aa g.z.p.k g.z.ac]
structure CG (w : World) (D : Nat) (cm : Lx.Cm) (g : Cg) : Prop where
  wd : g.wb = ⟨cm.word.toArray⟩
  nn : SAt w g.an g.nl g.nc (cm.names.map (fun x => ⟨x.toArray⟩))
  mm : NAt w g.am g.ml g.mc cm.nums
  rg : cm.rg = ⟨g.lo, g.hi, g.hl, g.hh⟩
  ex : ExAt w D (hV g.z) (tour cm.ex)
theorem CG.keep {w w' : World} {D : Nat} {cm : Lx.Cm} {g : Cg} (h : CG w D cm g) (k : Below w.heap.size w w') : CG w' D cm g := ⟨h.wd, h.nn.keep k, h.mm.keep k, h.rg, h.ex.keep k⟩
theorem tour_eq (x y : Lx.Ex) : tour x = tour y ↔ x = y := ⟨fun h => (tour_inj x y 0 [] [] (by rw [h])).1, fun h => by rw [h]⟩
theorem cm_eq (a b : Lx.Cm) : a = b ↔ a.word = b.word ∧ a.names = b.names ∧ a.nums = b.nums ∧ a.rg = b.rg ∧ a.ex = b.ex := by
  constructor
  · rintro rfl; exact ⟨rfl, rfl, rfl, rfl, rfl⟩
  · rintro ⟨h1, h2, h3, h4, h5⟩
    cases a; cases b; simp_all
theorem word_eq (a b : List UInt8) : (⟨a.toArray⟩ : ByteArray).toList = (⟨b.toArray⟩ : ByteArray).toList ↔ a = b := by
  rw [ByteArray.toList_eq, ByteArray.toList_eq]
/-- A command has what its shape has, and nothing else. -/
structure RightC (cm : Lx.Cm) : Prop where
  ok : (Lx.shape cm.word).isSome = true
  nam : ∀ x ∈ cm.names, RName ⟨x.toArray⟩
  nn : cm.names.length = Lx.cN ((Lx.shape cm.word).getD [])
  mm : cm.nums.length = Lx.cI ((Lx.shape cm.word).getD [])
  lo : cm.rg.hl = false → cm.rg.low = 0
  hi : cm.rg.hh = false → cm.rg.high = 0
  rg : ¬ 114 ∈ (Lx.shape cm.word).getD [] → cm.rg = ⟨0, 0, false, false⟩
  ex0 : ¬ 101 ∈ (Lx.shape cm.word).getD [] → cm.ex = Lx.leaf []
  ex1 : 101 ∈ (Lx.shape cm.word).getD [] → RightL (tour cm.ex 1)
theorem shV_get (o : Option (List UInt8)) : shV o = .tuple #[.string ⟨(o.getD []).toArray⟩, .bool o.isSome] := by cases o <;> rfl
theorem shape_len (w : List UInt8) : ((Lx.shape w).getD []).length ≤ 4 ∧ ∀ x ∈ (Lx.shape w).getD [], x = 110 ∨ x = 105 ∨ x = 101 ∨ x = 61 ∨ x = 114 := by
  cases h : Lx.shape w with
  | none => exact ⟨Nat.zero_le _, fun x hx => by cases hx⟩
  | some sh => exact Lx.shape_let (Lx.shape_in h)
end Go.Proofs.YtimjendkpjojoaaDoor
