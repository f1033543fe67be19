/-
  Proved: 'Rows.OrderBackCardSaid': the call of 'pitfloor/pitlaw1.OrderBack' returns true at every order, every two numbers and every text: an order is read as it was printed, a text that is read is printed as it was, and who meets a price meets each that is better. No condition on the input; the package-level variables that the road lists are tied to the program's text (one great table of the library, utf8's, by the form's own constant: no call here reads it).
  The card ties those variables to the pruned copy of the project that this seat's roots load; it says nothing of the project's other packages. That nothing else writes them is the translator's report.
-/
import Derived.Test.YtpcomgnglidhhaaDoorRows
import Derived.Test.YtpcomgnglidhhaaDoorTie
import Derived.Test.YtpcomgnglidhhaaDoorCards
import Derived.Test.YtpcomgnglidhhaaDoorOBWalk
import Derived.Test.YtpcomgnglidhhaaDoorOrdArg
import Derived.WalkKit
import Derived.ProofKit
import Derived.OpenShut
import Derived.ChangeMaps5
import Derived.SizedLaws
import Derived.LaidLaws
import Derived.LaidHandle
import Derived.LaidMore
import Derived.Lay
import Derived.MakeChecks
import Derived.SevenTiedAt
namespace Go.Proofs.YtpcomgnglidhhaaDoor.orderBack
open Go.ChangeShapes Go.WideShapes Go.ChangeAt Go.ChangeMaps Go.RowKit Go.Proofs.YtpcomgnglidhhaaDoor.ord

theorem own : ownKnob Tryd.prog.godebug = none := by kernel_rfl

/-- The listed variables. -/
abbrev lb : List (String × DataW Unit) := [("math/bits.deBruijn32tab", Rows.laid_math_bits_deBruijn32tab), ("math/bits.deBruijn64tab", Rows.laid_math_bits_deBruijn64tab), ("internal/strconv.uint64pow10", Rows.laid_internal_strconv_uint64pow10), ("unicode/utf8.acceptRanges", Rows.laid_unicode_utf8_acceptRanges), ("strconv.ErrRange", Rows.laid_strconv_ErrRange), ("strconv.ErrSyntax", Rows.laid_strconv_ErrSyntax), ("pitfloor/order.sideWords", Rows.laid_pitfloor_order_sideWords), ("pitfloor/order.kindWords", Rows.laid_pitfloor_order_kindWords), ("unicode/utf8.first", Rows.laid_unicode_utf8_first)]

theorem gE : Tryd.prog.globalNamed "strconv.ErrSyntax" = some 4 := by kernel_rfl

theorem laid_lb {W : World} (h : laidMetH Tryd.prog lb W) : Laid W ∧ ErrL W := by
  rw [MakeChecks.laidMetH_plain _ _ _ (by kernel_rfl)] at h
  refine ⟨laid_of h (List.Mem.tail _ (List.Mem.tail _ (List.Mem.head _))) (List.Mem.tail _ (List.Mem.tail _ (List.Mem.tail _ (List.Mem.tail _ (List.Mem.tail _ (List.Mem.tail _ (List.Mem.head _))))))) (List.Mem.tail _ (List.Mem.tail _ (List.Mem.tail _ (List.Mem.tail _ (List.Mem.tail _ (List.Mem.tail _ (List.Mem.tail _ (List.Mem.head _)))))))), ?_⟩
  obtain ⟨ps, hv, _⟩ := h
  obtain ⟨g, t, cs, fuel, p, e1, e2, e3, e4⟩ := laid_at (n := "strconv.ErrSyntax") (d := Rows.laid_strconv_ErrSyntax) hv (List.Mem.tail _ (List.Mem.tail _ (List.Mem.tail _ (List.Mem.tail _ (List.Mem.tail _ (List.Mem.head _))))))
  obtain rfl := Option.some.inj (gE.symm.trans e1)
  obtain rfl := Option.some.inj ((show (Tryd.prog.globals[4]?).map (·.type) = some 25 by kernel_rfl).symm.trans e2)
  obtain ⟨fuel', u, v, hcs, _, _⟩ := iface_of_trod Tryd.underlying25 e4
  refine ⟨u, v, ?_⟩
  have := World.var?_cell gE e3 0
  rw [this]
  have h0 : cs[0]? = cs.toList[0]? := by simp
  rw [h0, hcs]
  rfl

theorem back_walk (o : O) (p q : Int) (tx : ByteArray) (w : World) (hL : Laid w) (hE : ErrL w) (hs : tx.size ≤ 9223372036854775806) :
    Calls Tryd.prog 3 #[oV o, .int .i64 p, .int .i64 q, .string tx] w fun e w' => e = .returned (.bool true) ∧ Below w.heap.size w w' := by
  obtain ⟨j, hj⟩ : ∃ j, rdR tx.data.toList = j := ⟨_, rfl⟩
  have HPA := fun W hLW hEW => parse_any tx W hLW hEW hs
  rw [hj] at HPA
  have HPR := fun W hLW => print_any o W hLW
  have HM := fun x W => meets_any o x W
  have H2 : chk o = 0 → ∀ W, Laid W → ErrL W → Calls Tryd.prog 5 #[.string ⟨(if chk o = 0 then txt o else []).toArray⟩] W fun e w' => e = .returned (.tuple #[oV o, .nilIface]) ∧ Below W.heap.size W w' := by
    intro h W hLW hEW
    rw [if_pos h]
    have hz := txt_short h
    have := parse_any ⟨(txt o).toArray⟩ W hLW hEW (by omega)
    have e := rd_txt h
    have e1 : rdE (⟨(txt o).toArray⟩ : ByteArray).data.toList = 0 := e.1
    have e2 : rdR (⟨(txt o).toArray⟩ : ByteArray).data.toList = o := e.2
    rw [e1, e2] at this
    exact this
  have H4 : rdE tx.data.toList = 0 → ∀ W, Laid W → Calls Tryd.prog 6 #[oV j] W fun e w' => e = .returned (.tuple #[.string tx, .nilIface]) ∧ Below W.heap.size W w' := by
    intro h W hLW
    obtain ⟨h1, h2⟩ := txt_rd h
    rw [hj] at h1 h2
    have := print_any j W hLW
    rw [if_pos h1, h1, h2] at this
    exact this
  have G1 := err_form (mE o p)
  have G2 := err_form (mE o q)
  have hB : ∃ (c1 : Bool) (v3 : Value), (∀ W, Calls Tryd.prog 8 #[.int .i64 o.side, .int .i64 q, .int .i64 p] W fun e w' => e = .returned (.tuple #[.bool c1, v3]) ∧ Below W.heap.size W w') ∧ (v3 = .nilIface ∨ ∃ k, v3 = .iface 40 (.int .i64 k)) ∧ (v3 = .nilIface → bkOk o.side q p = true ∧ c1 = bkB o.side q p) := by
    cases hk : bkOk o.side q p
    · refine ⟨false, .iface 40 (.int .i64 1), fun W => (better_bad _ _ _ W hk).mono ?_, Or.inr ⟨1, rfl⟩, fun h => by cases h⟩
      rintro e w' ⟨rfl, hb⟩
      exact ⟨rfl, hb⟩
    · refine ⟨bkB o.side q p, .nilIface, fun W => (better_fine _ _ _ W hk).mono ?_, Or.inl rfl, fun _ => ⟨rfl, rfl⟩⟩
      rintro e w' ⟨rfl, hb⟩
      exact ⟨rfl, hb⟩
  obtain ⟨c1, v3, H7, G3, G4⟩ := hB
  have zero_of : ∀ k : Int, errV k = .nilIface → k = 0 := fun k h => by
    by_cases e : k = 0
    · exact e
    · rw [errV_of e] at h; cases h
  have G : errV (mE o p) = .nilIface → errV (mE o q) = .nilIface → v3 = .nilIface → (if mE o p = 0 then mB o p else false) = true → c1 = true → (if mE o q = 0 then mB o q else false) = true := by
    intro e1 e2 e3 ha hc
    have z1 := zero_of _ e1
    have z2 := zero_of _ e2
    rw [if_pos z1] at ha
    rw [if_pos z2]
    obtain ⟨k1, k2⟩ := G4 e3
    exact meets_better o p q k1 ha (by rw [← k2]; exact hc)
  have F1 : (decide (chk o = 0) = true ∧ errV (chk o) = .nilIface) ∨ (decide (chk o = 0) = false ∧ ∃ k, errV (chk o) = .iface 40 (.int .i64 k)) := by
    by_cases h : chk o = 0
    · exact Or.inl ⟨decide_eq_true h, by rw [h]; rfl⟩
    · exact Or.inr ⟨decide_eq_false h, _, errV_of h⟩
  have F3 : (decide (rdE tx.data.toList = 0) = true ∧ errV (rdE tx.data.toList) = .nilIface) ∨ (decide (rdE tx.data.toList = 0) = false ∧ ∃ k, errV (rdE tx.data.toList) = .iface 40 (.int .i64 k)) := by
    by_cases h : rdE tx.data.toList = 0
    · exact Or.inl ⟨decide_eq_true h, by rw [h]; rfl⟩
    · exact Or.inr ⟨decide_eq_false h, _, errV_of h⟩
  obtain ⟨i0, i1, i2, i3, i4, i5, i6, i7⟩ := o
  obtain ⟨j0, j1, j2, j3, j4, j5, j6, j7⟩ := j
  exact back_frame i0 i1 i2 i3 i4 i5 i6 i7 p q j0 j1 j2 j3 j4 j5 j6 j7 tx _ _ _ _ _ v3 _ _ _ _ c1 w hL hE (fun W a b => bk_fact W a b) HPR F1 (fun h => H2 (of_decide_eq_true h)) HPA F3 (fun h => H4 (of_decide_eq_true h)) (HM p) (HM q) H7 G1 G2 G3 G

set_option maxRecDepth 100000 in
theorem lifted (os : Os) (started : os.Started) (H : Type) (enc : TypeId × Value → H) :
    ReturnsInHanded {} Tryd.checked os 3 .any (fun w args => (Rows.orderBackSpec.pre enc Tryd.prog Tryd.f3 [] false w args ∧ laidMetH Tryd.prog lb w) ∧ sizedMet enc Tryd.prog Tryd.f3 (OpenSpec.ofChange Rows.orderBackSpec) false w args)
      (Rows.orderBackSpec.post enc Tryd.prog Tryd.f3 false true false false) := by
  refine returnsInHanded_of_change_and (C := Tryd.checked) (X := fun w _ => laidMetH Tryd.prog lb w) (fun _ _ _ hh h => h.of_heap hh) own started (by kernel_rfl) Tryd.func3
    (ChangeSpec.witness_shaped (enc := enc) (C := Tryd.checked) (os := os) (X := fun w _ => laidMetH Tryd.prog lb w) false (World.laidAll Tryd.prog os lb) #[.agg #[.int .i64 0, .int .i64 0, .int .i64 0, .int .i64 0, .int .i64 0, .int .i64 0, .int .i64 0, .int .i64 0], .int .i64 0, .int .i64 0, .string ⟨#[]⟩] 8 (World.laidAll_os _ _ _)
      (World.shaped_of_ZipB (by kernel_rfl) (by kernel_rfl)) (by kernel_rfl) (by kernel_rfl) (by kernel_rfl)
      (by rw [MakeChecks.laidMetH_plain _ _ _ (by kernel_rfl)]; exact laidMet_laidAll _ (by kernel_rfl) (by kernel_rfl))) ?_
  intro W base args ds gs before hval0 hW _ hsz hL _
  have hval : ∀ (j : Nat) t v, Tryd.f3.params[j]? = some t → args[j]? = some v → Value.okWide Tryd.prog W .any base t v := hval0
  have hW' := hW
  obtain ⟨p, q, hA0, hV, rfl, hfz, hnd⟩ := hW
  have hA : DataW.TrodAll enc Tryd.prog W 0 (fun _ => true) true Tryd.f3.params.toList args.toList ds p := hA0
  rw [Tryd.params3] at hA hval
  obtain ⟨v0, vs0, d0, ds0, p0, q0, hargs, rfl, rfl, h0, r0⟩ := trodAll_cons hA
  obtain ⟨v1, vs1, d1, ds1, p1, q1, rfl, rfl, rfl, h1, r1⟩ := trodAll_cons r0
  obtain ⟨v2, vs2, d2, ds2, p2, q2, rfl, rfl, rfl, h2, r2⟩ := trodAll_cons r1
  obtain ⟨v3, vs3, d3, ds3, p3, q3, rfl, rfl, rfl, h3, r3⟩ := trodAll_cons r2
  obtain ⟨rfl, rfl, rfl⟩ := trodAll_nil r3
  obtain rfl : args = #[v0, v1, v2, v3] := by cases args; simp_all
  obtain ⟨rfl, rfl⟩ := trodVars_none hV
  obtain ⟨o, rfl, rfl, rfl, w0⟩ := open_order (hval 0 23 v0 rfl rfl) h0
  obtain ⟨a1, rfl, rfl, rfl, w1⟩ := open_int Tryd.underlying3 (hval 1 3 v1 rfl rfl) h1
  obtain ⟨a2, rfl, rfl, rfl, w2⟩ := open_int Tryd.underlying3 (hval 2 3 v2 rfl rfl) h2
  obtain ⟨tx, rfl, rfl, rfl, w3⟩ := open_string Tryd.underlying9 (hval 3 9 v3 rfl rfl) h3
  have hlen : tx.data.toList.length ≤ reachBytes := sized_string hsz (j := 3) (t := 9) rfl rfl
  have hr := reachBytes_lt
  have hs : tx.size ≤ 9223372036854775806 := by rw [size_list]; omega
  clear hA0 hval0 hsz
  simp only [List.append_nil] at hW'
  have e1 : Rows.orderBackSpec.fn H ([oD o, .lit (.int .i64 a1), .lit (.int .i64 a2), .lit (.string tx.data.toList)] ++ []) = { results := [.lit (.bool true)], args := [oD o, .lit (.int .i64 a1), .lit (.int .i64 a2), .lit (.string tx.data.toList)] } := by simp [Rows.orderBackSpec]
  have hLE := laid_lb hL
  refine (back_walk o a1 a2 tx W hLE.1 hLE.2 hs).mono fun e W' ⟨he, hI⟩ => ?_
  subst he
  refine ⟨_, rfl, _, _, _, [], [], [], hW', ?_, ?_, ?_, hI.frame _, fun h => by cases h⟩
  · rw [e1]; exact trodAll_mk1 (shut_bool Tryd.underlying4 true)
  · rw [e1]; exact trodAll_cons_mk (shut_order o w0) (trodAll_cons_mk (shut_int Tryd.underlying3 w1) (trodAll_cons_mk (shut_int Tryd.underlying3 w2) (trodAll_cons_mk (shut_string Tryd.underlying9 w3) trodAll_mk0)))
  · rw [e1]; rfl

theorem row_holds : Rows.OrderBackSaid :=
  OpenClaim.holds_of_wide 3 Tryd.f3 rfl rfl rfl rfl rfl rfl rfl ⟨rfl, rfl, rfl, rfl, rfl⟩ rfl rfl rfl rfl rfl (by kernel_rfl) Tryd.func3 (by kernel_rfl)
    (of_decide_eq_true (by kernel_rfl)) (by unfold Func.isWrapper; rw [if_neg (of_decide_eq_false (by kernel_rfl))]; exact ⟨rfl, rfl⟩)
    (fun os started H enc _ => lifted os started H enc)
end Go.Proofs.YtpcomgnglidhhaaDoor.orderBack
namespace Go.Proofs.YtpcomgnglidhhaaDoor
set_option maxRecDepth 100000 in
set_option maxHeartbeats 2000000 in
theorem orderBack_holds : Rows.OrderBackCardSaid :=
  Claim7.holds_tied_plain_at .later [] [.data, .data, .data, .data, .sentinel, .sentinel, .data, .data, .pinned] true (true, "11f656e69eb3ba572591a56a40363b7782940a9bc33208a23abee8767cc32d52") true
    orderBack.row_holds (fun _ h => by cases h) (by kernel_rfl) (fun _ h => by cases h) orderBack_row_tie rfl ⟨rfl, rfl⟩ (by kernel_rfl) rfl
    (fun f fn hf hfn => by
      obtain rfl : f = 3 := Option.some.inj ((show Tryd.prog.funcNamed Tryd.f3.name = some 3 by kernel_rfl).symm.trans hf) |>.symm
      obtain rfl : fn = Tryd.f3 := (Option.some.inj (Tryd.func3.symm.trans hfn)).symm
      exact ⟨by kernel_rfl, fun j t ht => by
        rw [Tryd.params3] at ht
        rcases j with _ | j
        · have h3 : t = 23 := by simpa using ht.symm
          subst h3
          exact (show Tryd.prog.wantsStandIn 23 = false by kernel_rfl)
        rcases j with _ | j
        · have h3 : t = 3 := by simpa using ht.symm
          subst h3
          exact (show Tryd.prog.wantsStandIn 3 = false by kernel_rfl)
        rcases j with _ | j
        · have h3 : t = 3 := by simpa using ht.symm
          subst h3
          exact (show Tryd.prog.wantsStandIn 3 = false by kernel_rfl)
        rcases j with _ | j
        · have h3 : t = 9 := by simpa using ht.symm
          subst h3
          exact (show Tryd.prog.wantsStandIn 9 = false by kernel_rfl)
        simp at ht⟩)
    (by kernel_rfl)
#print axioms orderBack_holds
end Go.Proofs.YtpcomgnglidhhaaDoor
