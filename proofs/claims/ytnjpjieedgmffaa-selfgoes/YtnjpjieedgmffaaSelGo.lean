/- The walk of SelfGoes: one's own order between two others. -/
import Derived.Test.YtnjpjieedgmffaaSelDo
import Derived.Test.YtnjpjieedgmffaaMeeOwn
namespace Go.Proofs.Ytnjpjieedgmffaa.slf
open Go.RowKit Go.Proofs.Ytnjpjieedgmffaa.spn Go.Proofs.Ytnjpjieedgmffaa.que Go.Proofs.Ytnjpjieedgmffaa.sid Go.Proofs.Ytnjpjieedgmffaa.bok Go.Proofs.Ytnjpjieedgmffaa.mee Go.Proofs.Ytnjpjieedgmffaa.kin
open Go.Proofs.Ytnjpjieedgmffaa.ord (O oV mB mE chk)

def g3 : List R := [⟨1, 1, 10, 0, 0⟩, ⟨2, 5, 10, 0, 0⟩, ⟨3, 3, 10, 0, 0⟩]
def gS : List L := [⟨100, g3⟩]
def gO (q : Int) : O := ⟨9, 5, 1, 3, 100, q, 0, 0⟩
def mostG (m : Int) : Int := if m = 1 then 10 else if m = 2 then 20 else if m = 3 then 10 else 30
def wentG (m : Int) : Nat := if m = 2 then 1 else if m = 3 then 1 else 0
def nG (m q : Int) : Int := if q ≤ 10 then q else min q (mostG m)
def iG (m q : Int) : Nat := if q ≤ 10 then 0 else wentG m

theorem g_book : bookE [] gS = 0 := by decide
theorem g_in : inBook [] gS 9 = false := by decide
theorem g_come {q : Int} (h1 : 1 ≤ q) (h2 : q ≤ 30) : comeE [] gS (gO q) = 0 := by
  have hc : chk (gO q) = 0 := by
    have e : ord.qtyB (gO q) = true := by
      show (decide (1 ≤ q) && decide (q ≤ 10000) && decide ((0 : Int) ≤ 0) && decide ((0 : Int) ≤ q)) = true
      simp only [Bool.and_eq_true, decide_eq_true_eq]
      omega
    unfold chk
    rw [e]
    rfl
  unfold comeE
  rw [if_pos g_book, if_pos hc, if_pos (show (gO q).stop = 0 from rfl), if_neg (by rw [show (gO q).id = 9 from rfl, g_in]; decide)]
theorem g_meets (q : Int) : mB (gO q) 100 = true := by simp [mB, gO]
theorem most0 : mostG 0 = 30 := rfl
theorem most1 : mostG 1 = 10 := rfl
theorem most2 : mostG 2 = 20 := rfl
theorem most3 : mostG 3 = 10 := rfl

theorem trd_qty (o : O) (p : Int) (f : F) : (trd o p f).qty = f.qty := (trd_facts o p f).2.2.1
/-- Fill by fill. -/
theorem g_fine {m q : Int} (hm : m = 1 ∨ m = 2 ∨ m = 3) (h1 : 1 ≤ q) (h2 : q ≤ 30) : ∃ v, Fine m (gO q) gS q v ∧ v.ts.length ≤ 400 ∧ sumT v.ts = nG m q ∧ (∀ x ∈ v.ts, 1 ≤ x.qty) ∧ v.ids.length = iG m q ∧ lfV v + gnV v = q - nG m q ∧ 0 ≤ lfV v := by
  have hmB : mB (gO q) 100 = true := g_meets q
  by_cases hq : q ≤ 10
  · have e1 : min q 10 = q := by omega
    refine ⟨_, Fine.fill (r := ⟨1, 1, 10, 0, 0⟩) (by omega) hmB (by show ¬ (1 : Int) = 5; decide) (by rw [e1]; exact Fine.done (by omega)), by simp, ?_, ?_, ?_, ?_, ?_⟩
    · simp only [sumT, trd_qty, nG, if_pos hq]; omega
    · intro x hx; simp only [List.mem_singleton] at hx; rw [hx, trd_qty]; simp only []; omega
    · simp [iG, hq]
    · simp [lfV, gnV, nG, if_pos hq]
    · simp [lfV]
  · have e1 : min q 10 = 10 := by omega
    have hst : stepL 100 (tk1 10 ⟨1, 1, 10, 0, 0⟩ [⟨2, 5, 10, 0, 0⟩, ⟨3, 3, 10, 0, 0⟩]) [] = [⟨100, [⟨2, 5, 10, 0, 0⟩, ⟨3, 3, 10, 0, 0⟩]⟩] := rfl
    have hk : 0 < q - 10 := by omega
    rcases hm with rfl | rfl | rfl
    · refine ⟨_, Fine.fill (r := ⟨1, 1, 10, 0, 0⟩) (by omega) hmB (by show ¬ (1 : Int) = 5; decide) (by rw [e1]; exact Fine.taker (r := ⟨2, 5, 10, 0, 0⟩) (rs := [⟨3, 3, 10, 0, 0⟩]) (t := []) hk hmB rfl rfl), by simp, ?_, ?_, ?_, ?_, ?_⟩
      · simp only [sumT, trd_qty, nG, if_neg hq, most1]; omega
      · intro x hx; simp only [List.mem_singleton] at hx; rw [hx, trd_qty]; simp only []; omega
      · simp [iG, hq, wentG]
      · simp only [lfV, gnV, nG, if_neg hq, most1]; simp; omega
      · simp [lfV]
    · have e3 : ∃ v, Fine 2 (gO q) [⟨100, [⟨3, 3, 10, 0, 0⟩]⟩] (q - 10) v ∧ v.ts.length ≤ 1 ∧ sumT v.ts = min (q - 10) 10 ∧ (∀ x ∈ v.ts, 1 ≤ x.qty) ∧ v.ids = [] ∧ v.ends = false ∧ v.left = q - 10 - min (q - 10) 10 := by
        by_cases hq2 : q - 10 < 10
        · have e4 : min (q - 10) 10 = q - 10 := by omega
          refine ⟨_, Fine.fill (r := ⟨3, 3, 10, 0, 0⟩) hk hmB (by show ¬ (3 : Int) = 5; decide) (by rw [e4]; exact Fine.done (by omega)), by simp, ?_, ?_, rfl, rfl, ?_⟩
          · simp only [sumT, trd_qty]; omega
          · intro x hx; simp only [List.mem_singleton] at hx; rw [hx, trd_qty]; simp only []; omega
          · simp only []; omega
        · have e4 : min (q - 10) 10 = 10 := by omega
          refine ⟨_, Fine.fill (r := ⟨3, 3, 10, 0, 0⟩) (rs := []) (t := []) hk hmB (by show ¬ (3 : Int) = 5; decide) (by rw [e4]; exact Fine.stop (fun l t e => by cases e)), by simp, ?_, ?_, rfl, rfl, ?_⟩
          · simp only [sumT, trd_qty]; omega
          · intro x hx; simp only [List.mem_singleton] at hx; rw [hx, trd_qty]; simp only []; omega
          · simp only []; omega
      obtain ⟨v, f1, f2, f3, f4, f5, f6, f7⟩ := e3
      refine ⟨_, Fine.fill (r := ⟨1, 1, 10, 0, 0⟩) (by omega) hmB (by show ¬ (1 : Int) = 5; decide) (by rw [e1]; exact Fine.maker (r := ⟨2, 5, 10, 0, 0⟩) (rs := [⟨3, 3, 10, 0, 0⟩]) (t := []) hk hmB rfl rfl f1), ?_, ?_, ?_, ?_, ?_, ?_⟩
      · simp only [List.length_cons]; omega
      · simp only [sumT, trd_qty, f3, nG, if_neg hq, most2]; omega
      · intro x hx
        rcases List.mem_cons.1 hx with rfl | hx
        · rw [trd_qty]; simp only []; omega
        · exact f4 x hx
      · simp [iG, hq, wentG, f5]
      · simp only [lfV, gnV, f6, f7, nG, if_neg hq, most2]; simp; omega
      · simp only [lfV, f6, f7]; simp; omega
    · refine ⟨_, Fine.fill (r := ⟨1, 1, 10, 0, 0⟩) (by omega) hmB (by show ¬ (1 : Int) = 5; decide) (by rw [e1]; exact Fine.both (r := ⟨2, 5, 10, 0, 0⟩) (rs := [⟨3, 3, 10, 0, 0⟩]) (t := []) hk hmB rfl rfl), by simp, ?_, ?_, ?_, ?_, ?_⟩
      · simp only [sumT, trd_qty, nG, if_neg hq, most3]; omega
      · intro x hx; simp only [List.mem_singleton] at hx; rw [hx, trd_qty]; simp only []; omega
      · simp [iG, hq, wentG]
      · simp only [lfV, gnV, nG, if_neg hq, most3]; simp; omega
      · simp [lfV]

/-- What 'Do' answers of that level. -/
theorem goes_do (m q : Int) (hm : m = 0 ∨ m = 1 ∨ m = 2 ∨ m = 3) (h1 : 1 ≤ q) (h2 : q ≤ 30) (xq : Option Addr) (xc : Nat) (w : World) (hL : LS w (.slice xq 1 xc) gS) :
    Calls Try.prog 5 #[.agg #[.slice none 0 0, .slice xq 1 xc], .agg #[.int .i64 9, .int .i64 5, .int .i64 1, .int .i64 3, .int .i64 100, .int .i64 q, .int .i64 0, .int .i64 0], .int .i64 m] w fun e w' => ∃ q1 q2 n1 n2 c1 c2 tq tn tc iq ic, ∃ ts : List T, e = .returned (.tuple #[.agg #[.slice q1 n1 c1, .slice q2 n2 c2], .slice tq tn tc, .int .i64 (q - nG m q), .slice iq (iG m q) ic, .nilIface]) ∧ OwnT w' w.heap.size (.slice tq tn tc) ts ∧ ts.length = tn ∧ sumT ts = nG m q ∧ (∀ x ∈ ts, 1 ≤ x.qty) ∧ Below w.heap.size w w' := by
  have hC := g_come h1 h2
  have hO : otherL [] gS (gO q) = gS := rfl
  have hst : ∀ k, stayB (gO q) k = false := fun k => by unfold stayB mayK; simp [gO]
  rcases hm with rfl | hm
  · refine (sdo_zero none xq 0 1 0 xc [] gS 9 5 1 3 100 q 0 0 w (ls_nil w) hL).mono ?_
    rintro e w' ⟨i1, -, hb⟩
    have hE := sgo_each (schk_zero (book_zero g_book).2.1).2.1
    have hs := tkl_sum (o := gO q) gS q (by omega) hE
    have hl0 : (tkl (gO q) gS q).2.2 = 0 := by
      have hl := hE ⟨100, g3⟩ (by simp [gS])
      obtain ⟨f1, f2, f3, f4, f5, f6, f7⟩ := take_all (lchk_zero hl).2.2 (q := q) h1
      have ht : tot g3 = 30 := by decide
      have f1' : sum (take q g3).1 ≤ q := f1
      have f7' : sum (take q g3).1 + tot (take q g3).2 = 30 := by rw [← ht]; exact f7
      rcases tkl_step (t := []) (o := gO q) (l := ⟨100, g3⟩) (q := q) (show 0 < q by omega) (g_meets q) hl with ⟨he, e⟩ | ⟨he, hz, e⟩
      · have e2 : tkl (gO q) gS q = _ := e
        rw [e2]
        have he' : (take q g3).2 = [] := he
        rw [he'] at f7'
        have h0 : tot [] = 0 := rfl
        show q - sum (take q g3).1 = 0
        omega
      · have e2 : tkl (gO q) gS q = _ := e
        rw [e2]
        exact hz
    have hMR : metR [] gS (gO q) = tkl (gO q) gS q := rfl
    have hlen : (metR [] gS (gO q)).2.1.length ≤ 400 := by rw [hMR]; omega
    have hd : doE [] gS (gO q) = 0 := by
      unfold doE
      rw [if_pos hC, if_neg (show ¬ 400 < (metR [] gS (gO q)).2.1.length from by omega)]
    have hK : kdoE [] gS (gO q) = 0 := by
      unfold kdoE
      have hr : refE (gO q) (metR [] gS (gO q)).2.2 = 0 := by unfold refE; rw [if_neg (by simp [gO]), if_neg (by simp [gO])]
      rw [if_pos hd, if_pos hr]
      unfold setE
      rw [hst, if_neg (by decide)]
    obtain ⟨q1, q2, n1, n2, c1, c2, tv, rfl, -, -, OT⟩ := i1 hK
    obtain ⟨tq, tc, rfl⟩ := OwnM.form OT
    have hG : kdoG [] gS (gO q) = q - nG 0 q := by
      unfold kdoG setG
      rw [hst, if_neg (by decide), hMR, hl0]
      unfold nG
      rw [most0]
      split <;> omega
    have hI : iG 0 q = 0 := by unfold iG wentG; split <;> rfl
    rw [hI]
    have hG' : kdoG [] gS ⟨9, 5, 1, 3, 100, q, 0, 0⟩ = q - nG 0 q := hG
    rw [hG']
    refine ⟨q1, q2, n1, n2, c1, c2, tq, _, tc, none, 0, _, rfl, OT, rfl, ?_, fun x hx => (tkl_each (o := gO q) gS q (by omega) hE x hx).2.1, hb⟩
    show sumT (tkl (gO q) gS q).2.1 = nG 0 q
    unfold nG
    rw [most0]
    split <;> omega
  · obtain ⟨v, f1, f2, f3, f4, f5, f6, f7⟩ := g_fine hm h1 h2
    refine (sdo_mode m hm none xq 0 1 0 xc [] gS 9 5 1 3 100 q 0 0 w (ls_nil w) hL).mono ?_
    rintro e w' ⟨-, i2, hb⟩
    have hE : sE [] gS (gO q) v = 0 := by
      unfold sE
      rw [if_neg (by omega), if_pos (by unfold srefE; rw [if_neg (by simp [gO]), if_neg (by simp [gO])])]
      unfold setE
      rw [hst, if_neg (by decide)]
    obtain ⟨q1, q2, n1, n2, c1, c2, tv, iv, rfl, -, -, OT, OI⟩ := (i2 hC v f1).1 hE
    obtain ⟨tq, tc, rfl⟩ := OwnM.form OT
    obtain ⟨iq, ic, rfl⟩ := OwnM.form OI
    rw [f5]
    have hG : gnV v + setG ⟨9, 5, 1, 3, 100, q, 0, 0⟩ (lfV v) = q - nG m q := by
      unfold setG
      rw [show stayB ⟨9, 5, 1, 3, 100, q, 0, 0⟩ (lfV v) = false from hst _, if_neg (by decide)]
      omega
    rw [hG]
    exact ⟨q1, q2, n1, n2, c1, c2, tq, _, tc, iq, ic, _, rfl, OT, rfl, f3, f4, hb⟩
/-- That level as it is laid. -/
theorem goes_lay (w : World) : LS ((w.alloc (.cells #[.int .i64 1, .int .i64 1, .int .i64 10, .int .i64 0, .int .i64 0, .int .i64 2, .int .i64 5, .int .i64 10, .int .i64 0, .int .i64 0, .int .i64 3, .int .i64 3, .int .i64 10, .int .i64 0, .int .i64 0] 28)).alloc (.cells #[.int .i64 100, .slice (some ⟨w.heap.size, 0, none⟩) 3 3] 31)) (.slice (some ⟨w.heap.size + 1, 0, none⟩) 1 1) gS := by
  obtain ⟨w1, h1⟩ : ∃ w1, w1 = w.alloc (.cells #[.int .i64 1, .int .i64 1, .int .i64 10, .int .i64 0, .int .i64 0, .int .i64 2, .int .i64 5, .int .i64 10, .int .i64 0, .int .i64 0, .int .i64 3, .int .i64 3, .int .i64 10, .int .i64 0, .int .i64 0] 28) := ⟨_, rfl⟩
  have hs1 : w1.heap.size = w.heap.size + 1 := by rw [h1]; simp
  have hr1 := heap_alloc_new w (.cells #[.int .i64 1, .int .i64 1, .int .i64 10, .int .i64 0, .int .i64 0, .int .i64 2, .int .i64 5, .int .i64 10, .int .i64 0, .int .i64 0, .int .i64 3, .int .i64 3, .int .i64 10, .int .i64 0, .int .i64 0] 28)
  rw [← h1] at hr1 ⊢
  obtain ⟨w2, h2⟩ : ∃ w2, w2 = w1.alloc (.cells #[.int .i64 100, .slice (some ⟨w.heap.size, 0, none⟩) 3 3] 31) := ⟨_, rfl⟩
  have hr2 := heap_alloc_new w1 (.cells #[.int .i64 100, .slice (some ⟨w.heap.size, 0, none⟩) 3 3] 31)
  have hB2 : Below w1.heap.size w1 w2 := by rw [h2]; exact (Below.refl _ _).alloc (Nat.le_refl _) _
  rw [← h2] at hr2 ⊢
  have hr1' := (hB2.block w.heap.size (by omega)).trans hr1
  rw [hs1] at hr2
  have hQ : OwnQ w2 0 (.slice (some ⟨w.heap.size, 0, none⟩) 3 3) g3 := ⟨rfl, .inr ⟨w.heap.size, 0, 3, _, rfl, Nat.zero_le _, hr1', Nat.le_refl _, by unfold maxLen; omega, by simp, rfl⟩⟩
  have hLv : rlv.OwnQ w2 0 (.slice (some ⟨w.heap.size + 1, 0, none⟩) 1 1) [⟨100, some ⟨w.heap.size, 0, none⟩, 3, 3⟩] := ⟨rfl, .inr ⟨w.heap.size + 1, 0, 1, _, rfl, Nat.zero_le _, hr2, Nat.le_refl _, by unfold maxLen; omega, by simp, rfl⟩⟩
  have h : LS w2 (.slice (some ⟨w.heap.size + 1, 0, none⟩) 1 1) (([(⟨100, some ⟨w.heap.size, 0, none⟩, 3, 3⟩, g3)] : List RP).map toL) :=
    Loose.ls ⟨rlv.OwnQ.sl hLv, fun p hp => by simp only [List.mem_singleton] at hp; subst hp; exact .inl (OwnQ.sl hQ)⟩
  exact h
end Go.Proofs.Ytnjpjieedgmffaa.slf
