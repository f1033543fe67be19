/-
  Proved: 'Rows.OrderTellsUptoCardSaid': the call of 'pitfloor/pitlaw1.OrderTells' returns true at every order, every number and every text, where what comes in is of bulk at most 1048576: what is wrong with an order, an order as text, a text as an order, and at which prices it may trade, are the document's.
  Its condition is that bound alone. The package-level variables that the road reads are tied to the program's text: to the pruned copy of the project that this seat's roots load; the card says nothing of the project's other packages. That nothing else writes them is the translator's report.
-/
import Derived.Test.YtpcomgnglidhhaaGreatDoorRows
import Derived.Test.YtpcomgnglidhhaaGreatDoorTie
import Derived.Test.YtpcomgnglidhhaaGreatDoorCards
import Derived.Test.YtpcomgnglidhhaaGreatDoorOTWalk
import Derived.Test.YtpcomgnglidhhaaGreatDoorOrdArg
import Derived.WalkKit
import Derived.ProofKit
import Derived.OpenShut
import Derived.ChangeMaps5
import Derived.SizedLaws
import Derived.LaidLaws
import Derived.LaidHandle
import Derived.LaidMore
import Derived.Lay
import Derived.MakeChecks
import Derived.SevenTiedAt
import Derived.Deep.DeepHandedRow
import Derived.Deep.DeepWitnessRowRef
namespace Go.Proofs.YtpcomgnglidhhaaGreatDoor.orderTells
open Go.ChangeShapes Go.WideShapes Go.ChangeAt Go.ChangeMaps Go.RowKit Go.Proofs.YtpcomgnglidhhaaGreatDoor.ord

theorem own : ownKnob Tryz.prog.godebug = none := by kernel_rfl

/-- The listed variables that hold plain data. -/
abbrev lb : List (String × DataW Unit) := [("math/bits.deBruijn32tab", Rows.laid_math_bits_deBruijn32tab), ("math/bits.deBruijn64tab", Rows.laid_math_bits_deBruijn64tab), ("internal/strconv.uint64pow10", Rows.laid_internal_strconv_uint64pow10), ("unicode/utf8.acceptRanges", Rows.laid_unicode_utf8_acceptRanges), ("strconv.ErrRange", Rows.laid_strconv_ErrRange), ("strconv.ErrSyntax", Rows.laid_strconv_ErrSyntax), ("pitfloor/order.sideWords", Rows.laid_pitfloor_order_sideWords), ("pitfloor/order.kindWords", Rows.laid_pitfloor_order_kindWords), ("unicode/utf8.first", Rows.laid_unicode_utf8_first)]

theorem gE : Tryz.prog.globalNamed "strconv.ErrSyntax" = some 5 := by kernel_rfl
theorem oneRow : ((List.range 186).filter fun t => Tryz.prog.rowNamed t [101, 114, 114, 111, 114]) = [27] := by kernel_rfl
theorem tsize : Tryz.prog.types.size = 186 := by kernel_rfl
theorem gvar : Tryz.prog.globalNamed "errors.errorType" = some 2 := by kernel_rfl

theorem laid_data {W : World} (h : laidMet Tryz.prog lb W) : Laid W ∧ ErrL W := by
  refine ⟨laid_of h (List.Mem.tail _ (List.Mem.tail _ (List.Mem.head _))) (List.Mem.tail _ (List.Mem.tail _ (List.Mem.tail _ (List.Mem.tail _ (List.Mem.tail _ (List.Mem.tail _ (List.Mem.head _))))))) (List.Mem.tail _ (List.Mem.tail _ (List.Mem.tail _ (List.Mem.tail _ (List.Mem.tail _ (List.Mem.tail _ (List.Mem.tail _ (List.Mem.head _)))))))), ?_⟩
  obtain ⟨ps, hv, _⟩ := h
  obtain ⟨g, t, cs, fuel, p, e1, e2, e3, e4⟩ := laid_at (n := "strconv.ErrSyntax") (d := Rows.laid_strconv_ErrSyntax) hv (List.Mem.tail _ (List.Mem.tail _ (List.Mem.tail _ (List.Mem.tail _ (List.Mem.tail _ (List.Mem.head _))))))
  obtain rfl := Option.some.inj (gE.symm.trans e1)
  obtain rfl := Option.some.inj ((show (Tryz.prog.globals[5]?).map (·.type) = some 27 by kernel_rfl).symm.trans e2)
  obtain ⟨fuel', u, v, hcs, _, _⟩ := iface_of_trod Tryz.underlying27 e4
  refine ⟨u, v, ?_⟩
  have := World.var?_cell gE e3 0
  rw [this]
  have h0 : cs[0]? = cs.toList[0]? := by simp
  rw [h0, hcs]
  rfl

/-- What the listed variables' condition gives a walk. -/
theorem laid_all {W : World} (h : laidMetH Tryz.prog Rows.orderTellsUptoRow.laid W) : Laid W ∧ ErrL W ∧ told.Laid W := by
  have h' : laidMet Tryz.prog lb W ∧ handlesMet Tryz.prog [("errors.errorType", Rows.laid_errors_errorType)] W := h
  refine ⟨(laid_data h'.1).1, (laid_data h'.1).2, ?_⟩
  obtain ⟨name, u, ty, e1, e2, e3, e4, e5⟩ := h'.2 _ (List.mem_singleton.2 rfl)
  have en : name = [101, 114, 114, 111, 114] := (Option.some.inj e1).symm
  subst en
  have hu : some u = some 99 := e2.symm.trans (by kernel_rfl)
  obtain rfl := Option.some.inj hu
  have hm : ty ∈ (List.range 186).filter fun t => Tryz.prog.rowNamed t [101, 114, 114, 111, 114] := List.mem_filter.2 ⟨List.mem_range.2 (by rw [← tsize]; exact e3), e4⟩
  rw [oneRow] at hm
  obtain rfl := List.mem_singleton.1 hm
  have hh : typeHandle Tryz.prog 27 = .pointer (some ⟨11, 27, none⟩) := by kernel_rfl
  rw [hh] at e5
  simpa [told.Laid] using World.var?_cell gvar e5 0

theorem tells_any (o : O) (x : Int) (tx : ByteArray) (W : World) (hI : told.Laid W) (hL : Laid W) (hE : ErrL W) (hs : tx.size ≤ 2000000) :
    Calls Tryz.prog 3 #[oV o, .int .i64 x, .string tx] W fun e w' => e = .returned (.bool true) ∧ Below W.heap.size W w' := by
  obtain ⟨i0, i1, i2, i3, i4, i5, i6, i7⟩ := o
  exact (tells_walk i0 i1 i2 i3 i4 i5 i6 i7 x tx W W (told.Inv.start hI) hL hE hs).mono fun _ _ h => ⟨h.1, h.2.2⟩

theorem short {H : Type} {o : O} {a : Int} {s : ByteArray} (hk : Rows.uptoSmall H [oD o, .lit (.int .i64 a), .lit (.string s.data.toList)] = true) : s.size ≤ 2000000 := by
  have h : Rows.uptoBulkAll [oD (H := H) o, .lit (.int .i64 a), .lit (.string s.data.toList)] ≤ 1048576 := of_decide_eq_true hk
  simp only [Rows.uptoBulkAll, Rows.uptoBulk] at h
  have e : s.data.toList.length = s.size := by rw [Array.length_toList]; rfl
  omega

set_option maxRecDepth 100000 in
theorem contract (H : Type) (enc : TypeId × Value → H) (W : World) (base : Nat) (args : Array Value) (ds gs : List (DataW H)) (before : List MemPlace)
    (hval : ∀ (j : Nat) t v, Tryz.f3.params[j]? = some t → args[j]? = some v → Value.okWide Tryz.prog W .any base t v)
    (hW : DataW.Whole enc Tryz.prog Tryz.f3.params.toList Rows.orderTellsSpec.vars false W args.toList ds gs before) (hk : Rows.uptoSmall H (ds ++ gs) = true) (hL : laidMetH Tryz.prog Rows.orderTellsUptoRow.laid W) :
    Calls Tryz.prog 3 args W fun e W' => ∃ v, e = .returned v ∧ Rows.orderTellsSpec.post enc Tryz.prog Tryz.f3 false true false false W args v W' := by
  have hW' := hW
  obtain ⟨p, q, hA0, hV, rfl, hfz, hnd⟩ := hW
  have hA : DataW.TrodAll enc Tryz.prog W 0 (fun _ => true) true Tryz.f3.params.toList args.toList ds p := hA0
  rw [Tryz.params3] at hA hval
  obtain ⟨v0, vs0, d0, ds0, p0, q0, hargs, rfl, rfl, h0, r0⟩ := trodAll_cons hA
  obtain ⟨v1, vs1, d1, ds1, p1, q1, rfl, rfl, rfl, h1, r1⟩ := trodAll_cons r0
  obtain ⟨v2, vs2, d2, ds2, p2, q2, rfl, rfl, rfl, h2, r2⟩ := trodAll_cons r1
  obtain ⟨rfl, rfl, rfl⟩ := trodAll_nil r2
  obtain rfl : args = #[v0, v1, v2] := by cases args; simp_all
  obtain ⟨rfl, rfl⟩ := trodVars_none hV
  obtain ⟨o, rfl, rfl, rfl, w0⟩ := open_order (hval 0 23 v0 rfl rfl) h0
  obtain ⟨a1, rfl, rfl, rfl, w1⟩ := open_int Tryz.underlying3 (hval 1 3 v1 rfl rfl) h1
  obtain ⟨tx, rfl, rfl, rfl, w2⟩ := open_string Tryz.underlying9 (hval 2 9 v2 rfl rfl) h2
  have hs : tx.size ≤ 2000000 := short (H := H) (o := o) (a := a1) hk
  clear hA0 hk
  simp only [List.append_nil] at hW'
  have e1 : Rows.orderTellsSpec.fn H ([oD o, .lit (.int .i64 a1), .lit (.string tx.data.toList)] ++ []) = { results := [.lit (.bool true)], args := [oD o, .lit (.int .i64 a1), .lit (.string tx.data.toList)] } := by simp [Rows.orderTellsSpec]
  have hLE := laid_all hL
  refine (tells_any o a1 tx W hLE.2.2 hLE.1 hLE.2.1 hs).mono fun e W' ⟨he, hI⟩ => ?_
  subst he
  refine ⟨_, rfl, _, _, _, [], [], [], hW', ?_, ?_, ?_, hI.frame _, fun h => by cases h⟩
  · rw [e1]; exact trodAll_mk1 (shut_bool Tryz.underlying4 true)
  · rw [e1]; exact trodAll_cons_mk (shut_order o w0) (trodAll_cons_mk (shut_int Tryz.underlying3 w1) (trodAll_cons_mk (shut_string Tryz.underlying9 w2) trodAll_mk0))
  · rw [e1]; rfl

/-- The world of the witness: the handle set, the plain data laid. -/
theorem met (os : Os) (args : Array Value) : laidMetH Tryz.prog Rows.orderTellsUptoRow.laid ((World.layVars Tryz.prog { World.holding Tryz.prog os ⟨#[], #[], []⟩ with heap := (World.holding Tryz.prog os ⟨#[], #[], []⟩).heap.modify 2 fun
      | .cells _ t fz => .cells #[.iface 99 (.agg #[.pointer (some ⟨11, 27, none⟩)])] t fz
      | o => o } lb).forCall (fun _ _ => 0) ⟨#[], args, []⟩).memory := by
  refine laidMetH_of_parts3 (fuel := 8) ?_ (by kernel_rfl) (by kernel_rfl)
  show laidMet Tryz.prog lb _
  have e1 : (lb.filter fun x => (lb.map (·.1)).contains x.1) = lb := List.filter_eq_self.2 fun x hx => List.contains_iff_mem.2 (List.mem_map.2 ⟨x, hx, rfl⟩)
  have e2 : (lb.filter fun x => !(lb.map (·.1)).contains x.1) = [] := List.filter_eq_nil_iff.2 fun x hx => by rw [List.contains_iff_mem.2 (List.mem_map.2 ⟨x, hx, rfl⟩)]; simp
  refine laidMet_layVars (w0 := { World.holding Tryz.prog os ⟨#[], #[], []⟩ with heap := (World.holding Tryz.prog os ⟨#[], #[], []⟩).heap.modify 2 fun
      | .cells _ t fz => .cells #[.iface 99 (.agg #[.pointer (some ⟨11, 27, none⟩)])] t fz
      | o => o }) (lb.map (·.1)) [] ?_ ?_ ?_ (by rw [e2]; exact LaidIn.none)
  · rw [e1]; simp [World.memory, World.forCall, Input.heap]
  · rw [e1]; kernel_rfl
  · rw [e1]; kernel_rfl

theorem reads (os : Os) {H : Type} (enc : TypeId × Value → H) : ∃ places, DataW.whole enc Tryz.prog ((World.layVars Tryz.prog { World.holding Tryz.prog os ⟨#[], #[], []⟩ with heap := (World.holding Tryz.prog os ⟨#[], #[], []⟩).heap.modify 2 fun
      | .cells _ t fz => .cells #[.iface 99 (.agg #[.pointer (some ⟨11, 27, none⟩)])] t fz
      | o => o } lb).forCall (fun _ _ => 0) ⟨#[], #[.agg #[.int .i64 0, .int .i64 0, .int .i64 0, .int .i64 0, .int .i64 0, .int .i64 0, .int .i64 0, .int .i64 0], .int .i64 0, .string ⟨#[]⟩], []⟩).memory Tryz.f3.params.toList Rows.orderTellsSpec.vars false (#[.agg #[.int .i64 0, .int .i64 0, .int .i64 0, .int .i64 0, .int .i64 0, .int .i64 0, .int .i64 0, .int .i64 0], .int .i64 0, .string ⟨#[]⟩] : Array Value).toList 8 = some ([oD ⟨0, 0, 0, 0, 0, 0, 0, 0⟩, .lit (.int .i64 0), .lit (.string [])], [], places) :=
  ⟨[], by kernel_rfl⟩

set_option maxRecDepth 100000 in
theorem liftedUpto (os : Os) (started : os.Started) (H : Type) (enc : TypeId × Value → H) (F : Stop.Interp) :
    ReturnsInHanded {} Tryz.checked os 3 .any ((Rows.OpenSpec.upto Rows.orderTellsSpec).preRow enc Tryz.prog Tryz.f3 Rows.orderTellsUptoRow.domain false Rows.orderTellsUptoRow.laid) (((Rows.OpenSpec.upto Rows.orderTellsSpec).at F).post enc Tryz.prog Tryz.f3 false true false false) := by
  obtain ⟨places, hx⟩ := reads os enc
  refine returnsInHanded_of_row (C := Tryz.checked) (s := Rows.OpenSpec.upto Rows.orderTellsSpec) own started (by kernel_rfl) Tryz.func3
    (witness_row_atRef (enc := enc) (C := Tryz.checked) false (World.layVars Tryz.prog { World.holding Tryz.prog os ⟨#[], #[], []⟩ with heap := (World.holding Tryz.prog os ⟨#[], #[], []⟩).heap.modify 2 fun
      | .cells _ t fz => .cells #[.iface 99 (.agg #[.pointer (some ⟨11, 27, none⟩)])] t fz
      | o => o } lb) #[.agg #[.int .i64 0, .int .i64 0, .int .i64 0, .int .i64 0, .int .i64 0, .int .i64 0, .int .i64 0, .int .i64 0], .int .i64 0, .string ⟨#[]⟩] (World.layVars_os _ _ _) (by kernel_rfl) (by kernel_rfl) (by kernel_rfl)
      (OpenSpec.preRow_of_cond 8 hx (by kernel_rfl) (fun k hk => by cases hk; kernel_rfl) (by kernel_rfl) (met os _))) ?_
  intro W base args ds gs before hval hW _ hcond _ hL _ _
  exact contract H enc W base args ds gs before hval hW (hcond _ rfl) hL

theorem row_holds : Rows.OrderTellsUptoSaid :=
  OpenClaim.holds_of_cond 3 Tryz.f3 rfl rfl rfl rfl rfl rfl rfl ⟨rfl, rfl, rfl, rfl, rfl⟩ rfl rfl rfl rfl rfl (by kernel_rfl) Tryz.func3 (by kernel_rfl)
    (of_decide_eq_true (by kernel_rfl)) (by unfold Func.isWrapper; first | (rw [if_pos (by decide +kernel)]; kernel_rfl) | (rw [if_neg (by decide +kernel)]; exact ⟨rfl, rfl⟩))
    (fun os started H enc _ F => by rw [OpenClaim.pre_eq_preRow]; exact liftedUpto os started H enc F)
end Go.Proofs.YtpcomgnglidhhaaGreatDoor.orderTells
namespace Go.Proofs.YtpcomgnglidhhaaGreatDoor
set_option maxRecDepth 100000 in
set_option maxHeartbeats 2000000 in
theorem orderTellsUpto_holds : Rows.OrderTellsUptoCardSaid :=
  Claim7.holds_tied_plain_at .later [] [.data, .data, .data, .data, .handle, .sentinel, .sentinel, .data, .data, .pinned] true (true, "ff67eb6bba10ec7467d45568c36d6c57b487aeabfc675b8fff3991e44b7c0e76") true
    orderTells.row_holds (fun _ h => by cases h) (by kernel_rfl) (fun _ h => by cases h) orderTellsUpto_row_tie rfl ⟨rfl, rfl⟩ (by kernel_rfl) rfl
    (fun f fn hf hfn => by
      obtain rfl : f = 3 := Option.some.inj ((show Tryz.prog.funcNamed Tryz.f3.name = some 3 by kernel_rfl).symm.trans hf) |>.symm
      obtain rfl : fn = Tryz.f3 := (Option.some.inj (Tryz.func3.symm.trans hfn)).symm
      exact ⟨by kernel_rfl, fun j t ht => by
        rw [Tryz.params3] at ht
        rcases j with _ | j
        · have h3 : t = 23 := by simpa using ht.symm
          subst h3
          exact (show Tryz.prog.wantsStandIn 23 = false by kernel_rfl)
        rcases j with _ | j
        · have h3 : t = 3 := by simpa using ht.symm
          subst h3
          exact (show Tryz.prog.wantsStandIn 3 = false by kernel_rfl)
        rcases j with _ | j
        · have h3 : t = 9 := by simpa using ht.symm
          subst h3
          exact (show Tryz.prog.wantsStandIn 9 = false by kernel_rfl)
        simp at ht⟩)
    (by kernel_rfl)
#print axioms orderTellsUpto_holds
end Go.Proofs.YtpcomgnglidhhaaGreatDoor
