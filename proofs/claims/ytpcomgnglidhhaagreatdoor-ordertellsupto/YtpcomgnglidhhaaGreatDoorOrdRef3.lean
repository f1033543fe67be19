/- Contracts over this seat's translation: the document's Text, at every order that is right. -/
import Derived.Test.YtpcomgnglidhhaaGreatDoorOrdRef2
namespace Go.Proofs.YtpcomgnglidhhaaGreatDoor.ord
open Go.RowKit

theorem digV (n : Int) (w : World) (h0 : 0 ≤ n) (h1 : n ≤ 99999) :
    Calls Tryz.prog 25 #[.int .i64 n] w fun e w' => e = .returned (.string ⟨(dec n).toArray⟩) ∧ w' = w := digits_any 5 n w h0 (by omega) (by omega)

theorem glue_more (x nm : List UInt8) (n : Int) (r : List (List UInt8)) (h : ¬ n = 0) : glue (x :: (more nm n ++ r)) = x ++ 32 :: (nm ++ 32 :: glue (dec n :: r)) := by
  unfold more
  rw [if_neg h]
  show glue (x :: nm :: dec n :: r) = _
  rw [glue_cons x (by simp), glue_cons nm (by simp)]
theorem glue_less (x nm : List UInt8) (r : List (List UInt8)) : glue (x :: (more nm 0 ++ r)) = glue (x :: r) := rfl
theorem glue_last (x nm : List UInt8) (n : Int) (h : ¬ n = 0) : glue (x :: more nm n) = x ++ 32 :: (nm ++ 32 :: dec n) := by
  have := glue_more x nm n [] h
  rw [List.append_nil] at this
  exact this
theorem glue_end (x nm : List UInt8) : glue (x :: more nm 0) = x := rfl

attribute [local go_sem ↓] Go.wp_at_zero Go.wp_at_succ

set_option maxRecDepth 100000 in
set_option maxHeartbeats 2000000 in
theorem text_ok (a b p q s t : Int) (cn dn : Nat) (w : World) (h : chk ⟨a, b, cn, dn, p, q, s, t⟩ = 0) (hc : cn < 3) (hd : dn < 6) :
    Calls Tryz.prog 7 #[oV ⟨a, b, cn, dn, p, q, s, t⟩] w fun e w' => e = .returned (.string ⟨(txt ⟨a, b, cn, dn, p, q, s, t⟩).toArray⟩) ∧ Below w.heap.size w w' := by
  have hbd := chk_bounds h
  have HT : Hid (txt ⟨a, b, cn, dn, p, q, s, t⟩ = glue (dec a :: dec b :: sideW cn :: kindW dn :: dec q :: (more wAt p ++ (more wShow s ++ more wStop t)))) := by
    show txt _ = _
    rfl
  generalize (txt ⟨a, b, cn, dn, p, q, s, t⟩) = tx at HT ⊢
  simp only [oV] at hbd ⊢
  have la : (dec a).length ≤ 10 := dec_short (by omega) (by omega)
  have lb : (dec b).length ≤ 10 := dec_short (by omega) (by omega)
  have lq : (dec q).length ≤ 10 := dec_short (by omega) (by omega)
  have lp : (dec p).length ≤ 10 := dec_short (by omega) (by omega)
  have ls : (dec s).length ≤ 10 := dec_short (by omega) (by omega)
  have lt : (dec t).length ≤ 10 := dec_short (by omega) (by omega)
  have lsw : (sideW cn).length ≤ 10 := by
    have : cn = 0 ∨ cn = 1 ∨ cn = 2 := by omega
    rcases this with rfl | rfl | rfl <;> decide
  have lkw : (kindW dn).length ≤ 10 := by
    have : dn = 0 ∨ dn = 1 ∨ dn = 2 ∨ dn = 3 ∨ dn = 4 ∨ dn = 5 := by omega
    rcases this with rfl | rfl | rfl | rfl | rfl | rfl <;> decide
  have HSH : Hid (p = 0 → s = 0) := by
    intro e
    have := (chk_zero h).2.2.2.1
    unfold shapeB at this
    simp only [Bool.or_eq_true, decide_eq_true_eq] at this
    omega
  clear h
  go_enter Tryz.func7, Tryz.ntmps7
  go_wp2_with fail
  refine (digV _ _ (by omega) (by omega)).mono ?_
  rintro e w' ⟨rfl, rfl⟩
  go_wp2_with fail
  refine (digV _ _ (by omega) (by omega)).mono ?_
  rintro e w' ⟨rfl, rfl⟩
  go_wp2_with fail
  refine (digV _ _ (by omega) (by omega)).mono ?_
  rintro e w' ⟨rfl, rfl⟩
  go_upto_region 6 with fail
  have hV : Below w.heap.size w (((w.alloc (.cells #[.int .i64 a, .int .i64 b, .int .i64 cn, .int .i64 dn, .int .i64 p, .int .i64 q, .int .i64 s, .int .i64 t] 23)).alloc (.cells #[.string ⟨#[]⟩, .string ⟨wBuy.toArray⟩, .string ⟨wSell.toArray⟩] 9)).alloc (.cells #[.string ⟨#[]⟩, .string ⟨wLimit.toArray⟩, .string ⟨wMarket.toArray⟩, .string ⟨wNow.toArray⟩, .string ⟨wWhole.toArray⟩, .string ⟨wPost.toArray⟩] 9)) := (((Below.refl _ _).alloc (Nat.le_refl _) _).alloc (by simp) _).alloc (by simp; omega) _
  have cS : (((w.alloc (.cells #[.int .i64 a, .int .i64 b, .int .i64 cn, .int .i64 dn, .int .i64 p, .int .i64 q, .int .i64 s, .int .i64 t] 23)).alloc (.cells #[.string ⟨#[]⟩, .string ⟨wBuy.toArray⟩, .string ⟨wSell.toArray⟩] 9)).alloc (.cells #[.string ⟨#[]⟩, .string ⟨wLimit.toArray⟩, .string ⟨wMarket.toArray⟩, .string ⟨wNow.toArray⟩, .string ⟨wWhole.toArray⟩, .string ⟨wPost.toArray⟩] 9)).cell? ⟨w.heap.size + 1, cn, none⟩ = some (.string ⟨(sideW cn).toArray⟩) := by
    have : cn = 0 ∨ cn = 1 ∨ cn = 2 := by omega
    rw [World.cell?_alloc_lt _ _ ⟨w.heap.size + 1, cn, none⟩ (by simp), World.cell?_alloc_at _ _ _ _ (by simp)]
    rcases this with rfl | rfl | rfl <;> rfl
  have cK : (((w.alloc (.cells #[.int .i64 a, .int .i64 b, .int .i64 cn, .int .i64 dn, .int .i64 p, .int .i64 q, .int .i64 s, .int .i64 t] 23)).alloc (.cells #[.string ⟨#[]⟩, .string ⟨wBuy.toArray⟩, .string ⟨wSell.toArray⟩] 9)).alloc (.cells #[.string ⟨#[]⟩, .string ⟨wLimit.toArray⟩, .string ⟨wMarket.toArray⟩, .string ⟨wNow.toArray⟩, .string ⟨wWhole.toArray⟩, .string ⟨wPost.toArray⟩] 9)).cell? ⟨w.heap.size + 1 + 1, dn, none⟩ = some (.string ⟨(kindW dn).toArray⟩) := by
    have : dn = 0 ∨ dn = 1 ∨ dn = 2 ∨ dn = 3 ∨ dn = 4 ∨ dn = 5 := by omega
    rw [World.cell?_alloc_at _ _ _ _ (by simp)]
    rcases this with rfl | rfl | rfl | rfl | rfl | rfl <;> rfl
  have c2 : (((w.alloc (.cells #[.int .i64 a, .int .i64 b, .int .i64 cn, .int .i64 dn, .int .i64 p, .int .i64 q, .int .i64 s, .int .i64 t] 23)).alloc (.cells #[.string ⟨#[]⟩, .string ⟨wBuy.toArray⟩, .string ⟨wSell.toArray⟩] 9)).alloc (.cells #[.string ⟨#[]⟩, .string ⟨wLimit.toArray⟩, .string ⟨wMarket.toArray⟩, .string ⟨wNow.toArray⟩, .string ⟨wWhole.toArray⟩, .string ⟨wPost.toArray⟩] 9)).cell? ⟨w.heap.size, 2, none⟩ = some (.int .i64 cn) := by rw [World.cell?_alloc_lt _ _ ⟨w.heap.size, 2, none⟩ (by simp; try omega), World.cell?_alloc_lt _ _ ⟨w.heap.size, 2, none⟩ (by simp), World.cell?_alloc_at _ _ _ _ rfl]; rfl
  have c3 : (((w.alloc (.cells #[.int .i64 a, .int .i64 b, .int .i64 cn, .int .i64 dn, .int .i64 p, .int .i64 q, .int .i64 s, .int .i64 t] 23)).alloc (.cells #[.string ⟨#[]⟩, .string ⟨wBuy.toArray⟩, .string ⟨wSell.toArray⟩] 9)).alloc (.cells #[.string ⟨#[]⟩, .string ⟨wLimit.toArray⟩, .string ⟨wMarket.toArray⟩, .string ⟨wNow.toArray⟩, .string ⟨wWhole.toArray⟩, .string ⟨wPost.toArray⟩] 9)).cell? ⟨w.heap.size, 3, none⟩ = some (.int .i64 dn) := by rw [World.cell?_alloc_lt _ _ ⟨w.heap.size, 3, none⟩ (by simp; try omega), World.cell?_alloc_lt _ _ ⟨w.heap.size, 3, none⟩ (by simp), World.cell?_alloc_at _ _ _ _ rfl]; rfl
  have c4 : (((w.alloc (.cells #[.int .i64 a, .int .i64 b, .int .i64 cn, .int .i64 dn, .int .i64 p, .int .i64 q, .int .i64 s, .int .i64 t] 23)).alloc (.cells #[.string ⟨#[]⟩, .string ⟨wBuy.toArray⟩, .string ⟨wSell.toArray⟩] 9)).alloc (.cells #[.string ⟨#[]⟩, .string ⟨wLimit.toArray⟩, .string ⟨wMarket.toArray⟩, .string ⟨wNow.toArray⟩, .string ⟨wWhole.toArray⟩, .string ⟨wPost.toArray⟩] 9)).cell? ⟨w.heap.size, 4, none⟩ = some (.int .i64 p) := by rw [World.cell?_alloc_lt _ _ ⟨w.heap.size, 4, none⟩ (by simp; try omega), World.cell?_alloc_lt _ _ ⟨w.heap.size, 4, none⟩ (by simp), World.cell?_alloc_at _ _ _ _ rfl]; rfl
  have c6 : (((w.alloc (.cells #[.int .i64 a, .int .i64 b, .int .i64 cn, .int .i64 dn, .int .i64 p, .int .i64 q, .int .i64 s, .int .i64 t] 23)).alloc (.cells #[.string ⟨#[]⟩, .string ⟨wBuy.toArray⟩, .string ⟨wSell.toArray⟩] 9)).alloc (.cells #[.string ⟨#[]⟩, .string ⟨wLimit.toArray⟩, .string ⟨wMarket.toArray⟩, .string ⟨wNow.toArray⟩, .string ⟨wWhole.toArray⟩, .string ⟨wPost.toArray⟩] 9)).cell? ⟨w.heap.size, 6, none⟩ = some (.int .i64 s) := by rw [World.cell?_alloc_lt _ _ ⟨w.heap.size, 6, none⟩ (by simp; try omega), World.cell?_alloc_lt _ _ ⟨w.heap.size, 6, none⟩ (by simp), World.cell?_alloc_at _ _ _ _ rfl]; rfl
  have c7 : (((w.alloc (.cells #[.int .i64 a, .int .i64 b, .int .i64 cn, .int .i64 dn, .int .i64 p, .int .i64 q, .int .i64 s, .int .i64 t] 23)).alloc (.cells #[.string ⟨#[]⟩, .string ⟨wBuy.toArray⟩, .string ⟨wSell.toArray⟩] 9)).alloc (.cells #[.string ⟨#[]⟩, .string ⟨wLimit.toArray⟩, .string ⟨wMarket.toArray⟩, .string ⟨wNow.toArray⟩, .string ⟨wWhole.toArray⟩, .string ⟨wPost.toArray⟩] 9)).cell? ⟨w.heap.size, 7, none⟩ = some (.int .i64 t) := by rw [World.cell?_alloc_lt _ _ ⟨w.heap.size, 7, none⟩ (by simp; try omega), World.cell?_alloc_lt _ _ ⟨w.heap.size, 7, none⟩ (by simp), World.cell?_alloc_at _ _ _ _ rfl]; rfl
  have eW : (((w.alloc (.cells #[.int .i64 a, .int .i64 b, .int .i64 cn, .int .i64 dn, .int .i64 p, .int .i64 q, .int .i64 s, .int .i64 t] 23)).alloc (.cells #[.string ⟨#[]⟩, .string ⟨wBuy.toArray⟩, .string ⟨wSell.toArray⟩] 9)).alloc (.cells #[.string ⟨#[]⟩, .string ⟨wLimit.toArray⟩, .string ⟨wMarket.toArray⟩, .string ⟨wNow.toArray⟩, .string ⟨wWhole.toArray⟩, .string ⟨wPost.toArray⟩] 9)) = (((w.alloc (.cells #[.int .i64 a, .int .i64 b, .int .i64 cn, .int .i64 dn, .int .i64 p, .int .i64 q, .int .i64 s, .int .i64 t] 23)).alloc (.cells #[.string ⟨#[]⟩, .string ⟨#[98, 117, 121]⟩, .string ⟨#[115, 101, 108, 108]⟩] 9)).alloc (.cells #[.string ⟨#[]⟩, .string ⟨#[108, 105, 109, 105, 116]⟩, .string ⟨#[109, 97, 114, 107, 101, 116]⟩, .string ⟨#[110, 111, 119]⟩, .string ⟨#[119, 104, 111, 108, 101]⟩, .string ⟨#[112, 111, 115, 116]⟩] 9)) := rfl
  rw [← eW]
  clear eW
  generalize (((w.alloc (.cells #[.int .i64 a, .int .i64 b, .int .i64 cn, .int .i64 dn, .int .i64 p, .int .i64 q, .int .i64 s, .int .i64 t] 23)).alloc (.cells #[.string ⟨#[]⟩, .string ⟨wBuy.toArray⟩, .string ⟨wSell.toArray⟩] 9)).alloc (.cells #[.string ⟨#[]⟩, .string ⟨wLimit.toArray⟩, .string ⟨wMarket.toArray⟩, .string ⟨wNow.toArray⟩, .string ⟨wWhole.toArray⟩, .string ⟨wPost.toArray⟩] 9)) = V at *
  have HS : Hid (∃ x, sideW cn = x) := ⟨_, rfl⟩
  generalize sideW cn = sw at *
  generalize kindW dn = kw at *
  generalize dec a = da at *
  generalize dec b = db at *
  generalize dec q = dq at *
  have za : (⟨da.toArray⟩ : ByteArray).size ≤ 10 := by rw [size_list]; exact la
  have zb : (⟨db.toArray⟩ : ByteArray).size ≤ 10 := by rw [size_list]; exact lb
  have zq : (⟨dq.toArray⟩ : ByteArray).size ≤ 10 := by rw [size_list]; exact lq
  have zs : (⟨sw.toArray⟩ : ByteArray).size ≤ 10 := by rw [size_list]; exact lsw
  have zk : (⟨kw.toArray⟩ : ByteArray).size ≤ 10 := by rw [size_list]; exact lkw
  have HT2 : Hid (tx = da ++ 32 :: (db ++ 32 :: (sw ++ 32 :: (kw ++ 32 :: glue (dq :: (more wAt p ++ (more wShow s ++ more wStop t))))))) := HT.out
  clear HT HS
  have HX : Hid (((((((((⟨da.toArray⟩ : ByteArray) ++ ⟨#[32]⟩) ++ ⟨db.toArray⟩) ++ ⟨#[32]⟩) ++ ⟨sw.toArray⟩) ++ ⟨#[32]⟩) ++ ⟨kw.toArray⟩) ++ ⟨#[32]⟩) ++ ⟨dq.toArray⟩ = ⟨(da ++ 32 :: (db ++ 32 :: (sw ++ 32 :: (kw ++ 32 :: dq)))).toArray⟩) := by
    show _ = _
    apply str_ext
    simp
  generalize (⟨da.toArray⟩ : ByteArray) = DA at *
  generalize (⟨db.toArray⟩ : ByteArray) = DB at *
  generalize (⟨dq.toArray⟩ : ByteArray) = DQ at *
  generalize (⟨sw.toArray⟩ : ByteArray) = SW at *
  generalize (⟨kw.toArray⟩ : ByteArray) = KW at *
  have n1 : ¬ (9223372036854775807 < DA.size + 1) := by omega
  have n2 : ¬ (9223372036854775807 < DA.size + 1 + DB.size) := by omega
  have n3 : ¬ (9223372036854775807 < DA.size + 1 + DB.size + 1) := by omega
  have n4 : ¬ (9223372036854775807 < DA.size + 1 + DB.size + 1 + SW.size) := by omega
  have n5 : ¬ (9223372036854775807 < DA.size + 1 + DB.size + 1 + SW.size + 1) := by omega
  have n6 : ¬ (9223372036854775807 < DA.size + 1 + DB.size + 1 + SW.size + 1 + KW.size) := by omega
  have n7 : ¬ (9223372036854775807 < DA.size + 1 + DB.size + 1 + SW.size + 1 + KW.size + 1) := by omega
  have n8 : ¬ (9223372036854775807 < DA.size + 1 + DB.size + 1 + SW.size + 1 + KW.size + 1 + DQ.size) := by omega
  have g1 : (0 : Int) ≤ (cn : Int) := by omega
  have g2 : (cn : Int) < 3 := by omega
  have g3 : (0 : Int) ≤ (dn : Int) := by omega
  have g4 : (dn : Int) < 6 := by omega
  have SO : Hid (∀ W, Below V.heap.size V W → (Below V.heap.size V W ∧ W.cell? ⟨w.heap.size, 2, none⟩ = some (.int .i64 cn) ∧ W.cell? ⟨w.heap.size, 3, none⟩ = some (.int .i64 dn) ∧ W.cell? ⟨w.heap.size + 1, cn, none⟩ = some (.string SW) ∧ W.cell? ⟨w.heap.size + 1 + 1, dn, none⟩ = some (.string KW))) := fun W hW => ⟨hW, keeps hW c2, keeps hW c3, keeps hW cS, keeps hW cK⟩
  go_region_held3 (fun w' => Below V.heap.size V w' ∧ w'.cell? ⟨w.heap.size, 2, none⟩ = some (.int .i64 cn) ∧ w'.cell? ⟨w.heap.size, 3, none⟩ = some (.int .i64 dn) ∧ w'.cell? ⟨w.heap.size + 1, cn, none⟩ = some (.string SW) ∧ w'.cell? ⟨w.heap.size + 1 + 1, dn, none⟩ = some (.string KW))
    ((refine SO.out _ ?_; first | exact (Below.refl _ _).drew | assumption | (refine Below.alloc ?_ ?_ _ <;> first | assumption | (exact Below.size (by assumption)))))
    (fail)
  have hD : Below V.heap.size V V.drew := (Below.refl _ _).drew
  have hB : Below w.heap.size w V.drew := hV.trans (hD.mono hV.size)
  have d4 := keeps hD c4
  have d6 := keeps hD c6
  have d7 := keeps hD c7
  have HB : Hid (Below w.heap.size w V.drew) := hB
  clear hD hB c4 c6 c7 c2 c3 cS cK SO g1 g2 g3 g4 n1 n2 n3 n4 n5 n6 n7 n8 hV
  generalize V.drew = V1 at *
  rw [HX.out]
  clear HX za zb zq zs zk
  have lX : (da ++ 32 :: (db ++ 32 :: (sw ++ 32 :: (kw ++ 32 :: dq)))).length ≤ 54 := by simp; omega
  by_cases h1 : p = 0
  · subst h1
    by_cases h2 : s = 0
    · subst h2
      by_cases h3 : t = 0
      · subst h3
        have HE : Hid (tx = (da ++ 32 :: (db ++ 32 :: (sw ++ 32 :: (kw ++ 32 :: dq))))) := by
          show tx = _
          rw [HT2.out]
          rw [glue_less, glue_less, glue_end]
        clear HT2 HSH
        generalize (da ++ 32 :: (db ++ 32 :: (sw ++ 32 :: (kw ++ 32 :: dq)))) = X at *
        have lX' : X.toArray.size ≤ 54 := by simpa using lX
        go_wp2_with fail
        go_ret
        exact ⟨by rw [HE.out]; rfl, HB.out⟩
      · have h3' : (t == 0) = false := by simp; omega
        have HE : Hid (tx = (da ++ 32 :: (db ++ 32 :: (sw ++ 32 :: (kw ++ 32 :: dq)))) ++ [32, 115, 116, 111, 112, 32] ++ dec t) := by
          show tx = _
          rw [HT2.out]
          rw [glue_less, glue_less, glue_last _ _ _ h3]
          simp [wStop]
        clear HT2 HSH
        generalize (da ++ 32 :: (db ++ 32 :: (sw ++ 32 :: (kw ++ 32 :: dq)))) = X at *
        have lX' : X.toArray.size ≤ 54 := by simpa using lX
        go_wp2_with fail
        refine (digV _ _ (by omega) (by omega)).mono ?_
        rintro e w' ⟨rfl, rfl⟩
        go_wp2_with fail
        go_ret
        exact ⟨by rw [HE.out]; simp only [← app_str]; rfl, HB.out⟩
    · have h2' : (s == 0) = false := by simp; omega
      by_cases h3 : t = 0
      · subst h3
        exact absurd (HSH.out rfl) h2
      · have h3' : (t == 0) = false := by simp; omega
        exact absurd (HSH.out rfl) h2
  · have h1' : (p == 0) = false := by simp; omega
    by_cases h2 : s = 0
    · subst h2
      by_cases h3 : t = 0
      · subst h3
        have HE : Hid (tx = (da ++ 32 :: (db ++ 32 :: (sw ++ 32 :: (kw ++ 32 :: dq)))) ++ [32, 97, 116, 32] ++ dec p) := by
          show tx = _
          rw [HT2.out]
          rw [glue_more _ _ _ _ h1, glue_less, glue_end]
          simp [wAt]
        clear HT2 HSH
        generalize (da ++ 32 :: (db ++ 32 :: (sw ++ 32 :: (kw ++ 32 :: dq)))) = X at *
        have lX' : X.toArray.size ≤ 54 := by simpa using lX
        go_wp2_with fail
        refine (digV _ _ (by omega) (by omega)).mono ?_
        rintro e w' ⟨rfl, rfl⟩
        go_wp2_with fail
        go_ret
        exact ⟨by rw [HE.out]; simp only [← app_str]; rfl, HB.out⟩
      · have h3' : (t == 0) = false := by simp; omega
        have HE : Hid (tx = (da ++ 32 :: (db ++ 32 :: (sw ++ 32 :: (kw ++ 32 :: dq)))) ++ [32, 97, 116, 32] ++ dec p ++ [32, 115, 116, 111, 112, 32] ++ dec t) := by
          show tx = _
          rw [HT2.out]
          rw [glue_more _ _ _ _ h1, glue_less, glue_last _ _ _ h3]
          simp [wAt, wStop]
        clear HT2 HSH
        generalize (da ++ 32 :: (db ++ 32 :: (sw ++ 32 :: (kw ++ 32 :: dq)))) = X at *
        have lX' : X.toArray.size ≤ 54 := by simpa using lX
        go_wp2_with fail
        refine (digV _ _ (by omega) (by omega)).mono ?_
        rintro e w' ⟨rfl, rfl⟩
        go_wp2_with fail
        refine (digV _ _ (by omega) (by omega)).mono ?_
        rintro e w' ⟨rfl, rfl⟩
        go_wp2_with fail
        go_ret
        exact ⟨by rw [HE.out]; simp only [← app_str]; rfl, HB.out⟩
    · have h2' : (s == 0) = false := by simp; omega
      by_cases h3 : t = 0
      · subst h3
        have HE : Hid (tx = (da ++ 32 :: (db ++ 32 :: (sw ++ 32 :: (kw ++ 32 :: dq)))) ++ [32, 97, 116, 32] ++ dec p ++ [32, 115, 104, 111, 119, 32] ++ dec s) := by
          show tx = _
          rw [HT2.out]
          rw [glue_more _ _ _ _ h1, glue_more _ _ _ _ h2, glue_end]
          simp [wAt, wShow]
        clear HT2 HSH
        generalize (da ++ 32 :: (db ++ 32 :: (sw ++ 32 :: (kw ++ 32 :: dq)))) = X at *
        have lX' : X.toArray.size ≤ 54 := by simpa using lX
        go_wp2_with fail
        refine (digV _ _ (by omega) (by omega)).mono ?_
        rintro e w' ⟨rfl, rfl⟩
        go_wp2_with fail
        refine (digV _ _ (by omega) (by omega)).mono ?_
        rintro e w' ⟨rfl, rfl⟩
        go_wp2_with fail
        go_ret
        exact ⟨by rw [HE.out]; simp only [← app_str]; rfl, HB.out⟩
      · have h3' : (t == 0) = false := by simp; omega
        have HE : Hid (tx = (da ++ 32 :: (db ++ 32 :: (sw ++ 32 :: (kw ++ 32 :: dq)))) ++ [32, 97, 116, 32] ++ dec p ++ [32, 115, 104, 111, 119, 32] ++ dec s ++ [32, 115, 116, 111, 112, 32] ++ dec t) := by
          show tx = _
          rw [HT2.out]
          rw [glue_more _ _ _ _ h1, glue_more _ _ _ _ h2, glue_last _ _ _ h3]
          simp [wAt, wShow, wStop]
        clear HT2 HSH
        generalize (da ++ 32 :: (db ++ 32 :: (sw ++ 32 :: (kw ++ 32 :: dq)))) = X at *
        have lX' : X.toArray.size ≤ 54 := by simpa using lX
        go_wp2_with fail
        refine (digV _ _ (by omega) (by omega)).mono ?_
        rintro e w' ⟨rfl, rfl⟩
        go_wp2_with fail
        refine (digV _ _ (by omega) (by omega)).mono ?_
        rintro e w' ⟨rfl, rfl⟩
        go_wp2_with fail
        refine (digV _ _ (by omega) (by omega)).mono ?_
        rintro e w' ⟨rfl, rfl⟩
        go_wp2_with fail
        go_ret
        exact ⟨by rw [HE.out]; simp only [← app_str]; rfl, HB.out⟩

end Go.Proofs.YtpcomgnglidhhaaGreatDoor.ord
