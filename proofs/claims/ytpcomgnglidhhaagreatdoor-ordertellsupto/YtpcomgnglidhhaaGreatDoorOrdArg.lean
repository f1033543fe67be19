/- How an order that comes in is read, and what the listed variables' condition gives a walk. -/
import Derived.Test.YtpcomgnglidhhaaGreatDoorRows
import Derived.Test.YtpcomgnglidhhaaGreatDoorOrdNum
import Derived.OpenShut
import Derived.LaidLaws
import Derived.LaidHandle
import Derived.LaidMore
import Derived.Lib.LaidTab
namespace Go.Proofs.YtpcomgnglidhhaaGreatDoor.ord
open Go.ChangeShapes Go.WideShapes Go.ChangeAt Go.RowKit

theorem array8 {α : Type} {cs : Array α} (h : cs.size = 8) : ∃ c0 c1 c2 c3 c4 c5 c6 c7, cs = #[c0, c1, c2, c3, c4, c5, c6, c7] := by
  obtain ⟨l⟩ := cs
  match l, h with
  | [c0, c1, c2, c3, c4, c5, c6, c7], _ => exact ⟨c0, c1, c2, c3, c4, c5, c6, c7, rfl⟩
theorem list8 {α : Type} {l : List α} (h : l.length = 8) : ∃ c0 c1 c2 c3 c4 c5 c6 c7, l = [c0, c1, c2, c3, c4, c5, c6, c7] := by
  match l, h with
  | [c0, c1, c2, c3, c4, c5, c6, c7], _ => exact ⟨c0, c1, c2, c3, c4, c5, c6, c7, rfl⟩

/-- An order as it is read. -/
def oD {H : Type} (o : O) : DataW H := .agg [.lit (.int .i64 o.id), .lit (.int .i64 o.who), .lit (.int .i64 o.side), .lit (.int .i64 o.kind), .lit (.int .i64 o.price), .lit (.int .i64 o.qty), .lit (.int .i64 o.shw), .lit (.int .i64 o.stop)]
def OWf (o : O) : Prop := (Lit.int .i64 o.id).wf = true ∧ (Lit.int .i64 o.who).wf = true ∧ (Lit.int .i64 o.side).wf = true ∧ (Lit.int .i64 o.kind).wf = true ∧ (Lit.int .i64 o.price).wf = true ∧ (Lit.int .i64 o.qty).wf = true ∧ (Lit.int .i64 o.shw).wf = true ∧ (Lit.int .i64 o.stop).wf = true

theorem cellsO : Tryz.prog.cellsOf 23 = 8 := by kernel_rfl
theorem cellsI : Tryz.prog.cellsOf 3 = 1 := by kernel_rfl

section
variable {H : Type} {enc : TypeId × Value → H} {w : World} {base : Nat} {sp : Nat → Bool} {held : Bool}

set_option maxRecDepth 100000 in
theorem open_order {r : Reach} {b0 : Nat} {v : Value} {d : DataW H} {ps : List MemPlace} (hv : Value.okWide Tryz.prog w r b0 23 v) (h : DataW.Trod enc Tryz.prog w base sp held 23 v d ps) :
    ∃ o : O, v = oV o ∧ d = oD o ∧ ps = [] ∧ OWf o := by
  obtain ⟨cs, rfl, hsz⟩ := okWide_struct Tryz.underlying23 hv
  obtain ⟨c0, c1, c2, c3, c4, c5, c6, c7, rfl⟩ := array8 (hsz.trans cellsO)
  obtain ⟨fuel, hf⟩ := h
  obtain ⟨xs, n, _, hx, _, hlen, hF⟩ := DataW.trod_struct Tryz.underlying23 hf
  obtain ⟨y0, y1, y2, y3, y4, y5, y6, y7, rfl⟩ := list8 hlen
  have h0 : DataW.trod enc Tryz.prog w base sp held n 3 (((Value.agg #[c0, c1, c2, c3, c4, c5, c6, c7]).cells.toList.drop 0).take (Tryz.prog.cellsOf 3)) = some y0 := hF 0 _ rfl
  rw [cellsI] at h0
  obtain ⟨a0, e0, x0, w0⟩ := DataW.trod_int Tryz.underlying3 h0
  have h1 : DataW.trod enc Tryz.prog w base sp held n 3 (((Value.agg #[c0, c1, c2, c3, c4, c5, c6, c7]).cells.toList.drop 1).take (Tryz.prog.cellsOf 3)) = some y1 := hF 1 _ rfl
  rw [cellsI] at h1
  obtain ⟨a1, e1, x1, w1⟩ := DataW.trod_int Tryz.underlying3 h1
  have h2 : DataW.trod enc Tryz.prog w base sp held n 3 (((Value.agg #[c0, c1, c2, c3, c4, c5, c6, c7]).cells.toList.drop 2).take (Tryz.prog.cellsOf 3)) = some y2 := hF 2 _ rfl
  rw [cellsI] at h2
  obtain ⟨a2, e2, x2, w2⟩ := DataW.trod_int Tryz.underlying3 h2
  have h3 : DataW.trod enc Tryz.prog w base sp held n 3 (((Value.agg #[c0, c1, c2, c3, c4, c5, c6, c7]).cells.toList.drop 3).take (Tryz.prog.cellsOf 3)) = some y3 := hF 3 _ rfl
  rw [cellsI] at h3
  obtain ⟨a3, e3, x3, w3⟩ := DataW.trod_int Tryz.underlying3 h3
  have h4 : DataW.trod enc Tryz.prog w base sp held n 3 (((Value.agg #[c0, c1, c2, c3, c4, c5, c6, c7]).cells.toList.drop 4).take (Tryz.prog.cellsOf 3)) = some y4 := hF 4 _ rfl
  rw [cellsI] at h4
  obtain ⟨a4, e4, x4, w4⟩ := DataW.trod_int Tryz.underlying3 h4
  have h5 : DataW.trod enc Tryz.prog w base sp held n 3 (((Value.agg #[c0, c1, c2, c3, c4, c5, c6, c7]).cells.toList.drop 5).take (Tryz.prog.cellsOf 3)) = some y5 := hF 5 _ rfl
  rw [cellsI] at h5
  obtain ⟨a5, e5, x5, w5⟩ := DataW.trod_int Tryz.underlying3 h5
  have h6 : DataW.trod enc Tryz.prog w base sp held n 3 (((Value.agg #[c0, c1, c2, c3, c4, c5, c6, c7]).cells.toList.drop 6).take (Tryz.prog.cellsOf 3)) = some y6 := hF 6 _ rfl
  rw [cellsI] at h6
  obtain ⟨a6, e6, x6, w6⟩ := DataW.trod_int Tryz.underlying3 h6
  have h7 : DataW.trod enc Tryz.prog w base sp held n 3 (((Value.agg #[c0, c1, c2, c3, c4, c5, c6, c7]).cells.toList.drop 7).take (Tryz.prog.cellsOf 3)) = some y7 := hF 7 _ rfl
  rw [cellsI] at h7
  obtain ⟨a7, e7, x7, w7⟩ := DataW.trod_int Tryz.underlying3 h7
  simp [Value.cells] at e0 e1 e2 e3 e4 e5 e6 e7
  subst e0 e1 e2 e3 e4 e5 e6 e7 x0 x1 x2 x3 x4 x5 x6 x7
  simp only [Prod.mk.injEq] at hx
  exact ⟨⟨a0, a1, a2, a3, a4, a5, a6, a7⟩, rfl, hx.1, hx.2, w0, w1, w2, w3, w4, w5, w6, w7⟩

set_option maxRecDepth 100000 in
theorem shut_order (o : O) (h : OWf o) : DataW.Trod enc Tryz.prog w base sp held 23 (oV o) (oD o) [] := by
  obtain ⟨a0, a1, a2, a3, a4, a5, a6, a7⟩ := o
  obtain ⟨w0, w1, w2, w3, w4, w5, w6, w7⟩ := h
  simp only at w0 w1 w2 w3 w4 w5 w6 w7
  have t : ∀ a : Int, (Lit.int .i64 a).wf = true → DataW.trod enc Tryz.prog w base sp held 1 3 [.int .i64 a] = some (.lit (.int .i64 a), []) := fun a ha => by simp [DataW.trod, Tryz.underlying3, ha]
  have := trod_struct_mk (enc := enc) (w := w) (base := base) (spare := sp) (held := held) (n := 1)
    (cs := [.int .i64 a0, .int .i64 a1, .int .i64 a2, .int .i64 a3, .int .i64 a4, .int .i64 a5, .int .i64 a6, .int .i64 a7])
    (xs := [(.lit (.int .i64 a0), []), (.lit (.int .i64 a1), []), (.lit (.int .i64 a2), []), (.lit (.int .i64 a3), []), (.lit (.int .i64 a4), []), (.lit (.int .i64 a5), []), (.lit (.int .i64 a6), []), (.lit (.int .i64 a7), [])])
    Tryz.underlying23 (by rw [cellsO]; rfl) (by simp [cellsI, t, w0, w1, w2, w3, w4, w5, w6, w7])
  exact ⟨2, this⟩
end

/-- What a list of laid variables says of one of them. -/
theorem laid_at {P : Program} {W : World} {n : String} {d : DataW Unit} : ∀ {l : List (String × DataW Unit)} {ps : List MemPlace}, DataW.LaidVars P W l ps → (n, d) ∈ l →
    ∃ g t cs fuel p, P.globalNamed n = some g ∧ (P.globals[g]?).map (·.type) = some t ∧ W.var? P n = some cs ∧ DataW.trod (fun _ => ()) P W 0 (fun _ => true) false fuel t cs.toList = some (d, p)
  | [], _, _, hm => by simp at hm
  | (n', d') :: r, ps, h, hm => by
    obtain ⟨g, t, cs, fuel, p, q, h1, h2, h3, h4, h5, _⟩ := h
    cases hm with
    | head => exact ⟨g, t, cs, fuel, p, h1, h2, h3, h4⟩
    | tail _ hm => exact laid_at h5 hm

/-- An array of texts that reads as a table of texts holds them, cell for cell. -/
theorem cells_of_strs {H : Type} {enc : TypeId × Value → H} {P : Program} {w : World} {base : Nat} {sp : Nat → Bool} {held : Bool} {fuel : Nat} {t e : TypeId} {n : Nat} {cs : List Value} {zs : List (List UInt8)} {p : List MemPlace}
    (ht : P.underlying t = some (.array n e)) (he : P.underlying e = some .string) (hce : P.cellsOf e = 1) (hct : P.cellsOf t = n)
    (h : DataW.trod enc P w base sp held fuel t cs = some (.agg (zs.map fun z => .lit (.string z)), p)) : cs = zs.map fun z => Value.string ⟨z.toArray⟩ := by
  cases fuel with
  | zero => simp [DataW.trod] at h
  | succ fuel =>
    simp only [DataW.trod, ht, hce, hct, Nat.mul_one] at h
    split at h
    · rename_i hl
      obtain ⟨xs, hm, hx⟩ := Option.map_eq_some_iff.1 h
      have hxs : xs.map (·.1) = zs.map fun z => (DataW.lit (.string z) : DataW H) := by
        have := congrArg Prod.fst hx
        simpa using this
      have hxl : xs.length = n := by simpa using Lib.mapM_length hm
      have hzl : zs.length = n := by
        have := congrArg List.length hxs
        simp at this
        omega
      apply List.ext_getElem?
      intro i
      by_cases hi : i < n
      · obtain ⟨b, hb, hf⟩ := Lib.mapM_at hm i i (by simp [hi])
        obtain ⟨z, hc, rfl, _⟩ := DataW.trod_string he hf
        have h1 : cs[i]? = some (.string z) := by
          have := congrArg (·[0]?) hc
          simpa [List.getElem?_take, List.getElem?_drop] using this
        have h2 : (xs.map (·.1))[i]? = some (DataW.lit (.string z.data.toList) : DataW H) := by simp [hb]
        rw [hxs] at h2
        simp only [List.getElem?_map, Option.map_eq_some_iff, DataW.lit.injEq, Lit.string.injEq] at h2
        obtain ⟨z', hz', e⟩ := h2
        rw [h1, List.getElem?_map, hz']
        simp [e]
      · rw [List.getElem?_eq_none (by omega), List.getElem?_eq_none (by simp; omega)]
    · cases h

theorem gP : Tryz.prog.globalNamed "internal/strconv.uint64pow10" = some 3 := by kernel_rfl
theorem gS : Tryz.prog.globalNamed "pitfloor/order.sideWords" = some 0 := by kernel_rfl
theorem gK : Tryz.prog.globalNamed "pitfloor/order.kindWords" = some 1 := by kernel_rfl

/-- What the condition on the listed variables gives a walk. -/
theorem laid_of {W : World} {l : List (String × DataW Unit)} (h : laidMet Tryz.prog l W) (h1 : ("internal/strconv.uint64pow10", Rows.laid_internal_strconv_uint64pow10) ∈ l)
    (h2 : ("pitfloor/order.sideWords", Rows.laid_pitfloor_order_sideWords) ∈ l) (h3 : ("pitfloor/order.kindWords", Rows.laid_pitfloor_order_kindWords) ∈ l) : Laid W := by
  obtain ⟨ps, hv, _⟩ := h
  have tabP : Lib.TabIs Tryz.prog W "internal/strconv.uint64pow10" .u64 Lib.pow10Tab := by
    obtain ⟨g, t, cs, fuel, p, e1, e2, e3, e4⟩ := laid_at hv h1
    obtain rfl := Option.some.inj (gP.symm.trans e1)
    obtain rfl := Option.some.inj ((show (Tryz.prog.globals[3]?).map (·.type) = some 125 by kernel_rfl).symm.trans e2)
    unfold Lib.TabIs
    rw [e3, ← Lib.cells_of_tab (zs := Lib.pow10Tab) Tryz.underlying125 (by kernel_rfl) (by kernel_rfl) (by kernel_rfl) e4]
  have cS : ∀ i v, ([[], wBuy, wSell].map fun z => Value.string ⟨z.toArray⟩)[i]? = some v → W.cell? ⟨0, i, none⟩ = some v := by
    obtain ⟨g, t, cs, fuel, p, e1, e2, e3, e4⟩ := laid_at hv h2
    obtain rfl := Option.some.inj (gS.symm.trans e1)
    obtain rfl := Option.some.inj ((show (Tryz.prog.globals[0]?).map (·.type) = some 51 by kernel_rfl).symm.trans e2)
    have e5 := cells_of_strs (zs := [[], wBuy, wSell]) Tryz.underlying51 Tryz.underlying9 (by kernel_rfl) (by kernel_rfl) e4
    intro i v hi
    have := World.var?_cell gS e3 i
    rw [← e5] at hi
    rw [this]
    simpa using hi
  have cK : ∀ i v, ([[], wLimit, wMarket, wNow, wWhole, wPost].map fun z => Value.string ⟨z.toArray⟩)[i]? = some v → W.cell? ⟨1, i, none⟩ = some v := by
    obtain ⟨g, t, cs, fuel, p, e1, e2, e3, e4⟩ := laid_at hv h3
    obtain rfl := Option.some.inj (gK.symm.trans e1)
    obtain rfl := Option.some.inj ((show (Tryz.prog.globals[1]?).map (·.type) = some 52 by kernel_rfl).symm.trans e2)
    have e5 := cells_of_strs (zs := [[], wLimit, wMarket, wNow, wWhole, wPost]) Tryz.underlying52 Tryz.underlying9 (by kernel_rfl) (by kernel_rfl) e4
    intro i v hi
    have := World.var?_cell gK e3 i
    rw [← e5] at hi
    rw [this]
    simpa using hi
  exact ⟨tabP, cS 0 _ rfl, cS 1 _ rfl, cS 2 _ rfl, cK 0 _ rfl, cK 1 _ rfl, cK 2 _ rfl, cK 3 _ rfl, cK 4 _ rfl, cK 5 _ rfl⟩

end Go.Proofs.YtpcomgnglidhhaaGreatDoor.ord
