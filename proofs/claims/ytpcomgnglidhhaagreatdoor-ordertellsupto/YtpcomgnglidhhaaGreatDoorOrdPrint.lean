/- Contracts over this seat's translation: package order's appendPart and Print, each at every input. -/
import Derived.Test.YtpcomgnglidhhaaGreatDoorOrdNum
import Derived.Deep.AppendLies
import Derived.Deep.RegionHeld3
import Derived.Deep.DrawnRows
import Derived.Deep.CutRange
import Derived.Deep.DeepCutAuto
namespace Go.Proofs.YtpcomgnglidhhaaGreatDoor.ord
open Go.RowKit

theorem own_on {w w' : World} {B e size n : Nat} {v : Value} {xs : List Value} (h : w.ownsRow B e size v n xs) (hb : Below w.heap.size w w') : w'.ownsRow B e size v n xs := by
  refine ⟨h.1, ?_⟩
  rcases h.2 with h2 | ⟨g, cap, cur, hv, hB, hg, h3⟩
  · exact Or.inl h2
  · refine Or.inr ⟨g, cap, cur, hv, hB, ?_, h3⟩
    have hlt : g < w.heap.size := by
      rcases Nat.lt_or_ge g w.heap.size with h | h
      · exact h
      · rw [Array.getElem?_eq_none h] at hg; cases hg
    exact (hb.block g hlt).trans hg

theorem infoS : (Tryz.prog.info? 9).map (fun i => (i.zero, i.size, i.bytes)) = some (some (.string ByteArray.empty), 1, 16) := by kernel_rfl

theorem appendPart_zero (v : Value) (nm : ByteArray) (w : World) :
    Calls Tryz.prog 27 #[v, .string nm, .int .i64 0] w fun e w' => e = .returned v ∧ w' = w := by
  go_enter Tryz.func27, Tryz.ntmps27
  go_wp2
  go_ret
  exact ⟨rfl, rfl⟩

set_option maxRecDepth 100000 in
set_option maxHeartbeats 1000000 in
theorem appendPart_more (base g cap k : Nat) (xs : List Value) (nm : ByteArray) (n : Int) (w : World) (hL : Laid w) (h0 : n ≠ 0) (h1 : 0 ≤ n) (h2 : n ≤ 99999) (hk : k ≤ 20) (hbase : base ≤ w.heap.size)
    (hown : w.ownsRow base 9 1 (.slice (some ⟨g, 0, none⟩) k cap) k xs) :
    Calls Tryz.prog 27 #[.slice (some ⟨g, 0, none⟩) k cap, .string nm, .int .i64 n] w fun e w' => ∃ g' cap', e = .returned (.slice (some ⟨g', 0, none⟩) (k + 2) cap') ∧
      w'.ownsRow base 9 1 (.slice (some ⟨g', 0, none⟩) (k + 2) cap') (k + 2) (xs ++ [.string nm, .string ⟨(dec n).toArray⟩]) ∧ Below base w w' := by
  have hz : (n == 0) = false := beq_eq_false_iff_ne.2 h0
  have hcon := itoa_any n w hL (by omega) (by omega)
  generalize (⟨(dec n).toArray⟩ : ByteArray) = x at hcon ⊢
  obtain ⟨i0, hi, hz0, hz1, hz2⟩ := info_parts infoS
  have HI : Hid (Tryz.prog.info? 9 = some i0) := hi
  have hgb : base ≤ g := by
    obtain ⟨g', cap', cur, e, h, _⟩ := hown.2.resolve_left (fun h => by cases h.1)
    cases e; exact h
  clear hL hi
  go_enter Tryz.func27, Tryz.ntmps27
  go_wp2_with fail
  refine hcon.mono ?_
  rintro e w1 ⟨rfl, hb⟩
  have hown1 := own_on hown hb
  have hsz := hb.size
  clear hown hcon
  go_wp2_with (at_builtin; refine wpList_append_lies _ rfl _ _ 49 rfl base 9 i0 (.string ByteArray.empty) 1 16 Tryz.underlying49 HI.out hz0 hz1 hz2 rfl (by decide) _ k xs rfl (hown1.alloc _) ⟨w1.heap.size, 0, none⟩ 2 2 [.string nm, .string x] rfl rfl ?c1 ?c2 (by decide) ?c3 ?c4 ?c5 (w1.heap.size + 1) ?c6 ?_)
  case c1 => exact World.news_of_block (cs := #[.string nm, .string x]) (heap_alloc_new _ _)
  case c2 => intro u hu; simp at hu; rcases hu with rfl | rfl <;> rfl
  case c3 => unfold maxLen; omega
  case c4 => omega
  case c5 => simp; omega
  case c6 => simp
  intro g' cap' w2 hown2 hgrow hat hlt
  go_wp2
  go_ret
  refine ⟨g', cap', rfl, hown2, ?_⟩
  exact ((hb.mono hbase).alloc (by omega) _).grown hgrow (by simp; omega) (by intro j hj; cases hj; exact hgb)

/-- Words as the program holds them. -/
def vals (ws : List (List UInt8)) : List Value := ws.map fun l => .string ⟨l.toArray⟩
def strs (ws : List (List UInt8)) : List ByteArray := ws.map fun l => ⟨l.toArray⟩

theorem own_lt {w : World} {base g k cap : Nat} {xs : List Value} (h : w.ownsRow base 9 1 (.slice (some ⟨g, 0, none⟩) k cap) k xs) : base ≤ g ∧ g < w.heap.size ∧ k ≤ cap ∧ xs.length = k := by
  obtain ⟨g', cap', cur, e, hb, hg, hkc, _⟩ := h.2.resolve_left (fun h => by cases h.1)
  cases e
  refine ⟨hb, ?_, hkc, by have := h.1; omega⟩
  rcases Nat.lt_or_ge g w.heap.size with h | h
  · exact h
  · rw [Array.getElem?_eq_none h] at hg; cases hg

theorem own_cell {w : World} {base g k cap : Nat} {xs : List Value} (h : w.ownsRow base 9 1 (.slice (some ⟨g, 0, none⟩) k cap) k xs) (j : Nat) (v : Value) (hj : xs[j]? = some v) : w.cell? ⟨g, j, none⟩ = some v := by
  obtain ⟨g', cap', cur, e, hb, hg, hkc, _, _, ht⟩ := h.2.resolve_left (fun h => by cases h.1)
  cases e
  have := World.news_of_block hg j v (by
    rw [← ht, List.getElem?_take] at hj
    split at hj
    · exact hj
    · cases hj)
  have hadd : (⟨g, 0, none⟩ : Addr).add j = ⟨g, j, none⟩ := by unfold Addr.add; split <;> simp_all
  rw [hadd] at this
  exact this

theorem glue_len (ws : List (List UInt8)) (h : ∀ a ∈ ws, a.length ≤ 10) : (glue ws).length ≤ 11 * ws.length := by
  induction ws with
  | nil => simp [glue]
  | cons a r ih =>
    have ha := h a (by simp)
    have hr := ih (fun x hx => h x (by simp [hx]))
    cases r with
    | nil => simp [glue]; omega
    | cons b r => rw [glue_cons a (by simp)]; simp only [List.length_append, List.length_cons] at hr ⊢; omega

theorem join_any (base g cap k : Nat) (ws : List (List UInt8)) (w : World) (hk : k ≤ 20) (hown : w.ownsRow base 9 1 (.slice (some ⟨g, 0, none⟩) k cap) k (vals ws)) (hw : ∀ a ∈ ws, a.length ≤ 10) :
    Calls Tryz.prog 28 #[.slice (some ⟨g, 0, none⟩) k cap, .string ⟨#[32]⟩] w fun e w' => e = .returned (.string ⟨(glue ws).toArray⟩) ∧ Below w.heap.size w w' := by
  obtain ⟨_, hlt, hkc, hl⟩ := own_lt hown
  have hlen : (strs ws).length = k := by rw [← hl]; simp [vals, strs]
  have hwl : ws.length = k := by rw [← hl]; simp [vals]
  have hj : Lib.join ((strs ws).map (·.data.toList)) [32] = glue ws := by
    rw [← glue_join]
    congr 1
    unfold strs
    rw [List.map_map]
    conv => rhs; rw [← List.map_id ws]
    rfl
  have hcon := Tryz.strings_Join g 0 cap (strs ws) ⟨#[32]⟩ w (by
      intro j x hx
      rw [Nat.zero_add]
      refine own_cell hown j _ ?_
      unfold strs at hx
      unfold vals
      rw [List.getElem?_map] at hx ⊢
      cases e : ws[j]? with
      | none => rw [e] at hx; cases hx
      | some l => rw [e] at hx; cases hx; rfl) hlt (by omega) (by omega) (by
      show (Lib.join ((strs ws).map (·.data.toList)) [32]).length ≤ _
      rw [hj]
      have := glue_len ws hw
      omega)
  rw [hlen] at hcon
  have e2 : Lib.join ((strs ws).map (·.data.toList)) (⟨#[32]⟩ : ByteArray).data.toList = glue ws := hj
  rw [e2] at hcon
  exact hcon

theorem vals_app (a b : List (List UInt8)) : vals (a ++ b) = vals a ++ vals b := by unfold vals; rw [List.map_append]

theorem appendPart_any (base g cap k : Nat) (ws : List (List UInt8)) (nm : List UInt8) (n : Int) (w : World) (hL : Laid w) (h1 : 0 ≤ n) (h2 : n ≤ 99999) (hk : k ≤ 18) (hbase : base ≤ w.heap.size)
    (hown : w.ownsRow base 9 1 (.slice (some ⟨g, 0, none⟩) k cap) k (vals ws)) :
    Calls Tryz.prog 27 #[.slice (some ⟨g, 0, none⟩) k cap, .string ⟨nm.toArray⟩, .int .i64 n] w fun e w' => ∃ g' cap' k', k' ≤ k + 2 ∧ e = .returned (.slice (some ⟨g', 0, none⟩) k' cap') ∧
      w'.ownsRow base 9 1 (.slice (some ⟨g', 0, none⟩) k' cap') k' (vals (ws ++ more nm n)) ∧ Below base w w' := by
  by_cases h0 : n = 0
  · subst h0
    refine (appendPart_zero _ _ w).mono ?_
    rintro e w' ⟨rfl, rfl⟩
    exact ⟨g, cap, k, by omega, rfl, by unfold more; rw [if_pos rfl, List.append_nil]; exact hown, Below.refl _ _⟩
  · refine (appendPart_more base g cap k (vals ws) ⟨nm.toArray⟩ n w hL h0 h1 h2 (by omega) hbase hown).mono ?_
    rintro e w' ⟨g', cap', rfl, ho, hb⟩
    exact ⟨g', cap', k + 2, by omega, rfl, by unfold more; rw [if_neg h0, vals_app]; exact ho, hb⟩

theorem dec_short {n : Int} (h0 : 0 ≤ n) (h : n ≤ 99999) : (dec n).length ≤ 10 := by
  rw [dec_pos h0]
  have := dec_len 4 n.toNat (by omega)
  omega
theorem more_short {nm : List UInt8} {n : Int} (hn : nm.length ≤ 10) (h0 : 0 ≤ n) (h : n ≤ 99999) : ∀ a ∈ more nm n, a.length ≤ 10 := by
  intro a ha
  unfold more at ha
  by_cases e : n = 0
  · rw [if_pos e] at ha; simp at ha
  · rw [if_neg e] at ha
    simp only [List.mem_cons, List.not_mem_nil, or_false] at ha
    rcases ha with rfl | rfl
    · exact hn
    · exact dec_short h0 h
theorem words_short {o : O} (h : chk o = 0) : ∀ a ∈ wordsOf o, a.length ≤ 10 := by
  have b := chk_bounds h
  intro a ha
  unfold wordsOf headWs tailWs at ha
  simp only [List.mem_append, List.mem_cons, List.not_mem_nil, or_false] at ha
  rcases ha with (rfl | rfl | rfl | rfl | rfl) | ha | ha | ha
  · exact dec_short (by omega) (by omega)
  · exact dec_short (by omega) (by omega)
  · have : o.side = 1 ∨ o.side = 2 := by omega
    rcases this with e | e <;> rw [e] <;> decide
  · have : o.kind = 1 ∨ o.kind = 2 ∨ o.kind = 3 ∨ o.kind = 4 ∨ o.kind = 5 := by omega
    rcases this with e | e | e | e | e <;> rw [e] <;> decide
  · exact dec_short (by omega) (by omega)
  · exact more_short (by decide) (by omega) (by omega) a ha
  · exact more_short (by decide) (by omega) (by omega) a ha
  · exact more_short (by decide) (by omega) (by omega) a ha

/-- Itoa behind whatever was laid since a world V. -/
theorem itoaV (V : World) (hV : Laid V) (n : Int) (W : World) (h0 : -9223372036854775808 ≤ n) (h1 : n ≤ 9223372036854775807) (hW : Below V.heap.size V W) :
    Calls Tryz.prog 26 #[.int .i64 n] W fun e w' => e = .returned (.string ⟨(dec n).toArray⟩) ∧ Below V.heap.size V w' := by
  refine (itoa_any n W (hV.below hW) h0 h1).mono ?_
  rintro e w' ⟨rfl, hb⟩
  exact ⟨rfl, hW.trans (hb.mono hW.size)⟩

theorem print_no (o : O) (w : World) (h : chk o ≠ 0) :
    Calls Tryz.prog 8 #[oV o] w fun e w' => e = .returned (.tuple #[.string ⟨#[]⟩, errV (chk o)]) ∧ Below w.heap.size w w' := by
  have hcon := fun W => check_any o W
  rw [errV_of h] at hcon ⊢
  generalize chk o = k at *
  obtain ⟨a, b, c, d, p, q, s, t⟩ := o
  simp only [oV] at hcon ⊢
  go_enter Tryz.func8, Tryz.ntmps8
  go_wp2_with fail
  refine (hcon _).mono ?_
  rintro e w1 ⟨rfl, hb⟩
  go_wp2_with fail
  go_ret2
  exact ⟨rfl, ((Below.refl _ _).alloc (Nat.le_refl _) _).trans (hb.mono (by simp))⟩

attribute [local go_sem ↓] Go.wp_at_zero Go.wp_at_succ

set_option maxRecDepth 100000 in
set_option maxHeartbeats 4000000 in
theorem print_ok (a b p q s t : Int) (cn dn : Nat) (w : World) (hL : Laid w) (h : chk ⟨a, b, cn, dn, p, q, s, t⟩ = 0)
    (hc : cn < 3) (hd : dn < 6) (hsw : ∀ W, Laid W → W.cell? ⟨0, cn, none⟩ = some (.string ⟨(sideW cn).toArray⟩)) (hkw : ∀ W, Laid W → W.cell? ⟨1, dn, none⟩ = some (.string ⟨(kindW dn).toArray⟩)) :
    Calls Tryz.prog 8 #[oV ⟨a, b, cn, dn, p, q, s, t⟩] w fun e w' => e = .returned (.tuple #[.string ⟨(txt ⟨a, b, cn, dn, p, q, s, t⟩).toArray⟩, .nilIface]) ∧ Below w.heap.size w w' := by
  have hcon := fun W => check_any ⟨a, b, cn, dn, p, q, s, t⟩ W
  have hbd := chk_bounds h
  have HT : Hid (txt ⟨a, b, cn, dn, p, q, s, t⟩ = glue (dec a :: dec b :: sideW cn :: kindW dn :: dec q :: (more wAt p ++ (more wShow s ++ more wStop t)))) := by
    show txt _ = _
    rfl
  have HW : Hid (∀ x ∈ [dec a, dec b, sideW cn, kindW dn, dec q] ++ more wAt p ++ more wShow s ++ more wStop t, x.length ≤ 10) := by
    have := words_short h
    unfold wordsOf headWs tailWs at this
    simp only [List.append_assoc] at this ⊢
    exact this
  generalize (txt ⟨a, b, cn, dn, p, q, s, t⟩) = tx at HT ⊢
  generalize hsw' : sideW cn = sw at *
  generalize hkw' : kindW dn = kw at *
  generalize hda : dec a = da at *
  generalize hdb : dec b = db at *
  generalize hdq : dec q = dq at *
  have HA : Hid (dec a = da) := hda
  have HB : Hid (dec b = db) := hdb
  have HQ : Hid (dec q = dq) := hdq
  clear hsw' hkw' hda hdb hdq
  rw [h, errV_zero] at hcon
  simp only [oV] at hcon hbd ⊢
  go_enter Tryz.func8, Tryz.ntmps8
  go_wp2_with fail
  refine (hcon _).mono ?_
  rintro e w1 ⟨rfl, hb⟩
  have hb0 : Below w.heap.size w w1 := ((Below.refl _ _).alloc (Nat.le_refl _) _).trans (hb.mono (by simp))
  have hL1 : Laid w1 := hL.below hb0
  have c0 : w1.cell? ⟨w.heap.size, 0, none⟩ = some (.int .i64 a) := keeps hb (by simp)
  have c1 : w1.cell? ⟨w.heap.size, 1, none⟩ = some (.int .i64 b) := keeps hb (by simp)
  have c2 : w1.cell? ⟨w.heap.size, 2, none⟩ = some (.int .i64 cn) := keeps hb (by simp)
  have c3 : w1.cell? ⟨w.heap.size, 3, none⟩ = some (.int .i64 dn) := keeps hb (by simp)
  have c4 : w1.cell? ⟨w.heap.size, 4, none⟩ = some (.int .i64 p) := keeps hb (by simp)
  have c5 : w1.cell? ⟨w.heap.size, 5, none⟩ = some (.int .i64 q) := keeps hb (by simp)
  have c6 : w1.cell? ⟨w.heap.size, 6, none⟩ = some (.int .i64 s) := keeps hb (by simp)
  have c7 : w1.cell? ⟨w.heap.size, 7, none⟩ = some (.int .i64 t) := keeps hb (by simp)
  have cS := hsw w1 hL1
  have cK := hkw w1 hL1
  have g1 : (0 : Int) ≤ (cn : Int) := by omega
  have g2 : (cn : Int) < 3 := by omega
  have g3 : (0 : Int) ≤ (dn : Int) := by omega
  have g4 : (dn : Int) < 6 := by omega
  have SO : Hid (∀ W, Below w1.heap.size w1 W → (Below w1.heap.size w1 W ∧ W.cell? ⟨w.heap.size, 0, none⟩ = some (.int .i64 a) ∧ W.cell? ⟨w.heap.size, 1, none⟩ = some (.int .i64 b) ∧ W.cell? ⟨w.heap.size, 2, none⟩ = some (.int .i64 cn) ∧ W.cell? ⟨w.heap.size, 3, none⟩ = some (.int .i64 dn) ∧ W.cell? ⟨w.heap.size, 5, none⟩ = some (.int .i64 q) ∧ W.cell? ⟨0, cn, none⟩ = some (.string ⟨sw.toArray⟩) ∧ W.cell? ⟨1, dn, none⟩ = some (.string ⟨kw.toArray⟩))) := fun W hW => ⟨hW, keeps hW c0, keeps hW c1, keeps hW c2, keeps hW c3, keeps hW c5, keeps hW cS, keeps hW cK⟩
  clear hcon hsw hkw h
  go_upto_region 4 with fail
  go_region_held3 (fun w' => Below w1.heap.size w1 w' ∧ w'.cell? ⟨w.heap.size, 0, none⟩ = some (.int .i64 a) ∧ w'.cell? ⟨w.heap.size, 1, none⟩ = some (.int .i64 b) ∧ w'.cell? ⟨w.heap.size, 2, none⟩ = some (.int .i64 cn) ∧ w'.cell? ⟨w.heap.size, 3, none⟩ = some (.int .i64 dn) ∧ w'.cell? ⟨w.heap.size, 5, none⟩ = some (.int .i64 q) ∧ w'.cell? ⟨0, cn, none⟩ = some (.string ⟨sw.toArray⟩) ∧ w'.cell? ⟨1, dn, none⟩ = some (.string ⟨kw.toArray⟩))
    ((refine SO.out _ ?_; first | exact (Below.refl _ _).drew | assumption | (refine Below.alloc ?_ ?_ _ <;> first | assumption | (exact Below.size (by assumption)))))
    (first | (go_at_call 26; refine (itoaV w1 hL1 _ _ ?_ ?_ ?_).mono ?_; omega; omega; (first | assumption | exact Below.refl _ _ | exact (Below.refl _ _).drew); rintro e w' ⟨rfl, hbn⟩))
  rw [HA.out, HB.out, HQ.out]
  have hs1 : w.heap.size + 1 ≤ w1.heap.size := by have := hb.size; simp at this; omega
  have hbw : Below (w.heap.size + 1) w1 w' := hbn.mono hs1
  have hown : (w'.alloc (.cells #[.string ⟨da.toArray⟩, .string ⟨db.toArray⟩, .string ⟨sw.toArray⟩, .string ⟨kw.toArray⟩, .string ⟨dq.toArray⟩] 9)).ownsRow (w.heap.size + 1) 9 1 (.slice (some ⟨w'.heap.size, 0, none⟩) 5 5) 5 (vals [da, db, sw, kw, dq]) := by
    exact ⟨rfl, Or.inr ⟨w'.heap.size, 5, _, rfl, by have := hbn.size; omega, heap_alloc_new _ _, by omega, by unfold maxLen; omega, rfl, rfl⟩⟩
  have hbv : Below (w.heap.size + 1) w1 (w'.alloc (.cells #[.string ⟨da.toArray⟩, .string ⟨db.toArray⟩, .string ⟨sw.toArray⟩, .string ⟨kw.toArray⟩, .string ⟨dq.toArray⟩] 9)) := hbw.alloc (by have := hbn.size; omega) _
  generalize w'.alloc (.cells #[.string ⟨da.toArray⟩, .string ⟨db.toArray⟩, .string ⟨sw.toArray⟩, .string ⟨kw.toArray⟩, .string ⟨dq.toArray⟩] 9) = wA at *
  generalize w'.heap.size = g at *
  have far : Hid (∀ W, Below (w.heap.size + 1) w1 W → Laid W ∧ Below w.heap.size w W ∧ w.heap.size + 1 ≤ W.heap.size ∧ W.cell? ⟨w.heap.size, 4, none⟩ = some (.int .i64 p) ∧ W.cell? ⟨w.heap.size, 6, none⟩ = some (.int .i64 s) ∧ W.cell? ⟨w.heap.size, 7, none⟩ = some (.int .i64 t)) := by
    intro W hW
    have h0 : Below w.heap.size w W := hb0.trans (hW.mono (by omega))
    refine ⟨hL.below h0, h0, ?_, ?_, ?_, ?_⟩
    · have := hW.size; omega
    · exact (hW.cell (p := ⟨w.heap.size, 4, none⟩) (by simp)).trans c4
    · exact (hW.cell (p := ⟨w.heap.size, 6, none⟩) (by simp)).trans c6
    · exact (hW.cell (p := ⟨w.heap.size, 7, none⟩) (by simp)).trans c7
  clear SO hbw hbn c0 c1 c2 c3 c4 c5 c6 c7 cS cK hL1 hL hb0 hb g1 g2 g3 g4
  obtain ⟨lA, -, zA, a4, a6, a7⟩ := far.out wA hbv
  go_wp2_with fail
  refine (appendPart_any (w.heap.size + 1) _ _ _ _ wAt _ _ lA (by omega) (by omega) (by omega) zA hown).mono ?_
  rintro e w2 ⟨g2, cap2, k2, hk2, rfl, hown2, hb2⟩
  have hbv2 := hbv.trans hb2
  obtain ⟨l2, -, z2, b4, b6, b7⟩ := far.out w2 hbv2
  clear hown lA zA a4 a6 a7 hb2 hbv
  go_wp2_with fail
  refine (appendPart_any (w.heap.size + 1) _ _ _ _ wShow _ _ l2 (by omega) (by omega) (by omega) z2 hown2).mono ?_
  rintro e w3 ⟨g3, cap3, k3, hk3, rfl, hown3, hb3⟩
  have hbv3 := hbv2.trans hb3
  obtain ⟨l3, -, z3, d4, d6, d7⟩ := far.out w3 hbv3
  clear hown2 l2 z2 b4 b6 b7 hb3 hbv2
  go_wp2_with fail
  refine (appendPart_any (w.heap.size + 1) _ _ _ _ wStop _ _ l3 (by omega) (by omega) (by omega) z3 hown3).mono ?_
  rintro e w4 ⟨g4, cap4, k4, hk4, rfl, hown4, hb4⟩
  have hbv4 := hbv3.trans hb4
  obtain ⟨-, x4, z4, -, -, -⟩ := far.out w4 hbv4
  clear hown3 l3 z3 d4 d6 d7 hb4 hbv3
  go_wp2_with fail
  refine (join_any (w.heap.size + 1) _ _ _ _ _ (by omega) hown4 HW.out).mono ?_
  rintro e w5 ⟨rfl, hb5⟩
  go_wp2_with fail
  go_ret2
  exact ⟨by rw [HT.out]; rfl, x4.trans (hb5.mono x4.size)⟩

/-- Print, at every order. -/
theorem print_any (o : O) (w : World) (hL : Laid w) :
    Calls Tryz.prog 8 #[oV o] w fun e w' => e = .returned (.tuple #[.string ⟨(if chk o = 0 then txt o else []).toArray⟩, errV (chk o)]) ∧ Below w.heap.size w w' := by
  by_cases h : chk o = 0
  · obtain ⟨a, b, c, d, p, q, s, t⟩ := o
    rw [if_pos h, h]
    have hb := chk_bounds h
    have hc : c = 1 ∨ c = 2 := hb.2.2.2.2.1
    have hd : d = 1 ∨ d = 2 ∨ d = 3 ∨ d = 4 ∨ d = 5 := by
      have h1 : 1 ≤ d := hb.2.2.2.2.2.1
      have h2 : d ≤ 5 := hb.2.2.2.2.2.2.1
      omega
    rw [errV_zero]
    obtain ⟨cn, rfl⟩ : ∃ cn : Nat, c = cn := ⟨c.toNat, by omega⟩
    obtain ⟨dn, rfl⟩ : ∃ dn : Nat, d = dn := ⟨d.toNat, by omega⟩
    refine print_ok a b p q s t cn dn w hL h (by omega) (by omega) ?_ ?_
    · intro W hW
      have hc' : cn = 1 ∨ cn = 2 := by omega
      rcases hc' with rfl | rfl
      · exact hW.s1
      · exact hW.s2
    · intro W hW
      have hd' : dn = 1 ∨ dn = 2 ∨ dn = 3 ∨ dn = 4 ∨ dn = 5 := by omega
      rcases hd' with rfl | rfl | rfl | rfl | rfl
      · exact hW.k1
      · exact hW.k2
      · exact hW.k3
      · exact hW.k4
      · exact hW.k5
  · rw [if_neg h]
    exact print_no o w h

end Go.Proofs.YtpcomgnglidhhaaGreatDoor.ord
