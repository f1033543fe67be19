/- Plain facts on orders: what is wrong with one, its words, and what is read of words; each undoes the other. -/
import Derived.Test.YtpcomgnglidhhaaGreatDoorOrdPure
namespace Go.Proofs.YtpcomgnglidhhaaGreatDoor.ord
open Go

/-- An order's eight numbers. -/
structure O where
  id : Int
  who : Int
  side : Int
  kind : Int
  price : Int
  qty : Int
  shw : Int
  stop : Int

def zeroO : O := ⟨0, 0, 0, 0, 0, 0, 0, 0⟩

def prB (p : Int) : Bool := decide (1 ≤ p) && decide (p ≤ 10000)

/-- The first four numbers are in their ranges. -/
def headB (o : O) : Bool := decide (1 ≤ o.id) && decide (o.id ≤ 9999) && decide (1 ≤ o.who) && decide (o.who ≤ 9) && decide (1 ≤ o.side) && decide (o.side ≤ 2) && decide (1 ≤ o.kind) && decide (o.kind ≤ 5)
def priceOkB (o : O) : Bool := if o.kind = 2 then decide (o.price = 0) else prB o.price
def qtyB (o : O) : Bool := decide (1 ≤ o.qty) && decide (o.qty ≤ 10000) && decide (0 ≤ o.shw) && decide (o.shw ≤ o.qty)
def shapeB (o : O) : Bool := decide (o.shw = 0) || decide (o.kind = 1) || decide (o.kind = 5)
def stopB (o : O) : Bool := decide (o.stop = 0) || prB o.stop

/-- What is wrong with an order: 0, 1 or 3. -/
def chk (o : O) : Int := if headB o && priceOkB o && qtyB o then (if shapeB o then (if stopB o then 0 else 1) else 3) else 1

theorem chk_zero {o : O} (h : chk o = 0) : headB o = true ∧ priceOkB o = true ∧ qtyB o = true ∧ shapeB o = true ∧ stopB o = true := by
  unfold chk at h
  by_cases h1 : (headB o && priceOkB o && qtyB o) = true
  · rw [if_pos h1] at h
    by_cases h2 : shapeB o = true
    · rw [if_pos h2] at h
      by_cases h3 : stopB o = true
      · simp only [Bool.and_eq_true] at h1
        exact ⟨h1.1.1, h1.1.2, h1.2, h2, h3⟩
      · rw [if_neg h3] at h; omega
    · rw [if_neg h2] at h; omega
  · rw [if_neg h1] at h; omega

theorem chk_bounds {o : O} (h : chk o = 0) : 1 ≤ o.id ∧ o.id ≤ 9999 ∧ 1 ≤ o.who ∧ o.who ≤ 9 ∧ (o.side = 1 ∨ o.side = 2) ∧ 1 ≤ o.kind ∧ o.kind ≤ 5 ∧
    0 ≤ o.price ∧ o.price ≤ 10000 ∧ (o.price = 0 ↔ o.kind = 2) ∧ 1 ≤ o.qty ∧ o.qty ≤ 10000 ∧ 0 ≤ o.shw ∧ o.shw ≤ 10000 ∧ 0 ≤ o.stop ∧ o.stop ≤ 10000 := by
  obtain ⟨h1, h2, h3, _, h5⟩ := chk_zero h
  unfold headB at h1
  unfold qtyB at h3
  unfold priceOkB prB at h2
  unfold stopB prB at h5
  simp only [Bool.and_eq_true, Bool.or_eq_true, decide_eq_true_eq] at h1 h3 h5
  by_cases hk : o.kind = 2
  · rw [if_pos hk] at h2
    simp only [decide_eq_true_eq] at h2
    omega
  · rw [if_neg hk] at h2
    simp only [Bool.and_eq_true, decide_eq_true_eq] at h2
    omega

def wBuy : List UInt8 := [98, 117, 121]
def wSell : List UInt8 := [115, 101, 108, 108]
def wLimit : List UInt8 := [108, 105, 109, 105, 116]
def wMarket : List UInt8 := [109, 97, 114, 107, 101, 116]
def wNow : List UInt8 := [110, 111, 119]
def wWhole : List UInt8 := [119, 104, 111, 108, 101]
def wPost : List UInt8 := [112, 111, 115, 116]
def wAt : List UInt8 := [97, 116]
def wShow : List UInt8 := [115, 104, 111, 119]
def wStop : List UInt8 := [115, 116, 111, 112]

def sideW (n : Int) : List UInt8 := if n = 1 then wBuy else if n = 2 then wSell else []
def kindW (n : Int) : List UInt8 := if n = 1 then wLimit else if n = 2 then wMarket else if n = 3 then wNow else if n = 4 then wWhole else if n = 5 then wPost else []
def sideN (w : List UInt8) : Nat := if w = wBuy then 1 else if w = wSell then 2 else 0
def kindN (w : List UInt8) : Nat := if w = wLimit then 1 else if w = wMarket then 2 else if w = wNow then 3 else if w = wWhole then 4 else if w = wPost then 5 else 0

/-- A number's decimal digits. -/
def dec (n : Int) : List UInt8 := Lib.itoa n

theorem dec_pos {n : Int} (h : 0 ≤ n) : dec n = Lib.decDigits n.toNat := by unfold dec Lib.itoa; rw [if_neg (by omega)]

def more (nm : List UInt8) (n : Int) : List (List UInt8) := if n = 0 then [] else [nm, dec n]
def headWs (o : O) : List (List UInt8) := [dec o.id, dec o.who, sideW o.side, kindW o.kind, dec o.qty]
def tailWs (o : O) : List (List UInt8) := more wAt o.price ++ (more wShow o.shw ++ more wStop o.stop)
/-- The words of an order. -/
def wordsOf (o : O) : List (List UInt8) := headWs o ++ tailWs o
/-- Its text. -/
def txt (o : O) : List UInt8 := glue (wordsOf o)

/-- A name and its number taken off words, if they stand ahead. -/
def part (nm : List UInt8) (ws : List (List UInt8)) : Nat × List (List UInt8) :=
  match ws with
  | a :: b :: r => if a = nm ∧ num b ≠ 0 then (num b, r) else (0, ws)
  | _ => (0, ws)

def tail3 (ws : List (List UInt8)) : Nat × Nat × Nat × List (List UInt8) :=
  ((part wAt ws).1, (part wShow (part wAt ws).2).1, (part wStop (part wShow (part wAt ws).2).2).1, (part wStop (part wShow (part wAt ws).2).2).2)

/-- The numbers that words tell. -/
def rdO (ws : List (List UInt8)) : O :=
  match ws with
  | a :: b :: c :: d :: e :: tl => ⟨num a, num b, sideN c, kindN d, (tail3 tl).1, num e, (tail3 tl).2.1, (tail3 tl).2.2.1⟩
  | _ => zeroO

/-- Are words of an order's form? -/
def rdB (ws : List (List UInt8)) : Bool :=
  match ws with
  | a :: b :: c :: d :: e :: tl => decide (num a ≠ 0) && decide (num b ≠ 0) && decide (sideN c ≠ 0) && decide (kindN d ≠ 0) && decide (num e ≠ 0) && decide ((tail3 tl).1 = 0 ↔ kindN d = 2) && (tail3 tl).2.2.2.isEmpty
  | _ => false

theorem dec_num {n : Int} (h1 : 1 ≤ n) (h2 : n ≤ 99999) : (num (dec n) : Int) = n := by
  rw [dec_pos (by omega), num_dec n.toNat (by omega) (by omega)]; omega

theorem dec_free {n : Int} (h1 : 1 ≤ n) : (32 : UInt8) ∉ dec n := by
  rw [dec_pos (by omega)]; exact num_free (val_dec n.toNat (by omega)).2.1

theorem num_dec_eq {l : List UInt8} (h : num l ≠ 0) : dec (num l : Int) = l := by
  rw [dec_pos (by omega), Int.toNat_natCast]; exact (num_pos h).2

theorem sideN_sideW {n : Int} (h : n = 1 ∨ n = 2) : (sideN (sideW n) : Int) = n := by
  rcases h with rfl | rfl <;> decide
theorem kindN_kindW {n : Int} (h1 : 1 ≤ n) (h2 : n ≤ 5) : (kindN (kindW n) : Int) = n := by
  have : n = 1 ∨ n = 2 ∨ n = 3 ∨ n = 4 ∨ n = 5 := by omega
  rcases this with rfl | rfl | rfl | rfl | rfl <;> decide
theorem sideW_sideN {w : List UInt8} (h : sideN w ≠ 0) : sideW (sideN w : Int) = w := by
  unfold sideN at h ⊢
  by_cases h1 : w = wBuy
  · rw [if_pos h1]; rw [h1]; rfl
  · rw [if_neg h1] at h ⊢
    by_cases h2 : w = wSell
    · rw [if_pos h2]; rw [h2]; rfl
    · rw [if_neg h2] at h; exact absurd rfl h
theorem kindW_kindN {w : List UInt8} (h : kindN w ≠ 0) : kindW (kindN w : Int) = w := by
  unfold kindN at h ⊢
  by_cases h1 : w = wLimit
  · rw [if_pos h1]; rw [h1]; rfl
  · rw [if_neg h1] at h ⊢
    by_cases h2 : w = wMarket
    · rw [if_pos h2]; rw [h2]; rfl
    · rw [if_neg h2] at h ⊢
      by_cases h3 : w = wNow
      · rw [if_pos h3]; rw [h3]; rfl
      · rw [if_neg h3] at h ⊢
        by_cases h4 : w = wWhole
        · rw [if_pos h4]; rw [h4]; rfl
        · rw [if_neg h4] at h ⊢
          by_cases h5 : w = wPost
          · rw [if_pos h5]; rw [h5]; rfl
          · rw [if_neg h5] at h; exact absurd rfl h
theorem side_free {n : Int} (h : n = 1 ∨ n = 2) : (32 : UInt8) ∉ sideW n := by
  rcases h with rfl | rfl <;> decide
theorem kind_free {n : Int} (h1 : 1 ≤ n) (h2 : n ≤ 5) : (32 : UInt8) ∉ kindW n := by
  have : n = 1 ∨ n = 2 ∨ n = 3 ∨ n = 4 ∨ n = 5 := by omega
  rcases this with rfl | rfl | rfl | rfl | rfl <;> decide

theorem more_free {nm : List UInt8} {n : Int} (hn : (32 : UInt8) ∉ nm) (h : 0 ≤ n) : ∀ a ∈ more nm n, (32 : UInt8) ∉ a := by
  intro a ha
  unfold more at ha
  by_cases e : n = 0
  · rw [if_pos e] at ha; simp at ha
  · rw [if_neg e] at ha
    simp only [List.mem_cons, List.not_mem_nil, or_false] at ha
    rcases ha with rfl | rfl
    · exact hn
    · exact dec_free (by omega)

theorem words_free {o : O} (h : chk o = 0) : ∀ a ∈ wordsOf o, (32 : UInt8) ∉ a := by
  have b := chk_bounds h
  intro a ha
  unfold wordsOf headWs tailWs at ha
  simp only [List.mem_append, List.mem_cons, List.not_mem_nil, or_false] at ha
  rcases ha with (rfl | rfl | rfl | rfl | rfl) | ha | ha | ha
  · exact dec_free (by omega)
  · exact dec_free (by omega)
  · exact side_free (by omega)
  · exact kind_free (by omega) (by omega)
  · exact dec_free (by omega)
  · exact more_free (by decide) (by omega) a ha
  · exact more_free (by decide) (by omega) a ha
  · exact more_free (by decide) (by omega) a ha

/-- The words of an order's text are its words. -/
theorem cut_txt {o : O} (h : chk o = 0) : cut (txt o) = wordsOf o :=
  cut_glue _ (by unfold wordsOf headWs; simp) (words_free h)

theorem part_more {nm : List UInt8} {n : Int} {r : List (List UInt8)} (h0 : 0 ≤ n) (h1 : n ≤ 99999) (hr : r.head? ≠ some nm) :
    part nm (more nm n ++ r) = (n.toNat, r) := by
  unfold more
  by_cases e : n = 0
  · subst e
    rw [if_pos rfl]
    show part nm r = (0, r)
    unfold part
    split
    · rename_i a b r'
      have : a ≠ nm := fun e => hr (by simp [e])
      rw [if_neg (fun e => this e.1)]
    · rfl
  · rw [if_neg e]
    show part nm (nm :: dec n :: r) = _
    have hn := dec_num (n := n) (by omega) h1
    have hne : num (dec n) ≠ 0 := by omega
    have hc : nm = nm ∧ num (dec n) ≠ 0 := ⟨rfl, hne⟩
    have e2 : num (dec n) = n.toNat := by omega
    show (if nm = nm ∧ num (dec n) ≠ 0 then (num (dec n), r) else (0, nm :: dec n :: r)) = _
    rw [if_pos hc, e2]

theorem more_head {nm nm2 : List UInt8} {n : Int} {r : List (List UInt8)} (h : nm2 ≠ nm) (hr : r.head? ≠ some nm) : (more nm2 n ++ r).head? ≠ some nm := by
  unfold more
  by_cases e : n = 0
  · rw [if_pos e]; simpa using hr
  · rw [if_neg e]; simpa using h

theorem tail3_tail {o : O} (h : chk o = 0) : tail3 (tailWs o) = (o.price.toNat, o.shw.toNat, o.stop.toNat, []) := by
  have b := chk_bounds h
  have e3 : part wStop (more wStop o.stop) = (o.stop.toNat, []) := by
    have := part_more (nm := wStop) (n := o.stop) (r := []) (by omega) (by omega) (by simp)
    simpa using this
  have e2 : part wShow (more wShow o.shw ++ more wStop o.stop) = (o.shw.toNat, more wStop o.stop) :=
    part_more (by omega) (by omega) (by have := more_head (nm := wShow) (nm2 := wStop) (n := o.stop) (r := []) (by decide) (by simp); simpa using this)
  have e1 : part wAt (tailWs o) = (o.price.toNat, more wShow o.shw ++ more wStop o.stop) := by
    unfold tailWs
    exact part_more (by omega) (by omega) (more_head (by decide) (by have := more_head (nm := wAt) (nm2 := wStop) (n := o.stop) (r := []) (by decide) (by simp); simpa using this))
  unfold tail3
  rw [e1]; simp only; rw [e2]; simp only; rw [e3]

/-- An order's words are read as it was. -/
theorem rd_words {o : O} (h : chk o = 0) : rdB (wordsOf o) = true ∧ rdO (wordsOf o) = o := by
  have b := chk_bounds h
  have t := tail3_tail h
  have e1 := dec_num (n := o.id) (by omega) (by omega)
  have e2 := dec_num (n := o.who) (by omega) (by omega)
  have e3 := dec_num (n := o.qty) (by omega) (by omega)
  have e4 := sideN_sideW (n := o.side) (by omega)
  have e5 := kindN_kindW (n := o.kind) (by omega) (by omega)
  have ew : wordsOf o = dec o.id :: dec o.who :: sideW o.side :: kindW o.kind :: dec o.qty :: tailWs o := rfl
  constructor
  · rw [ew]
    unfold rdB
    simp only [t, Bool.and_eq_true, decide_eq_true_eq]
    refine ⟨⟨⟨⟨⟨⟨?_, ?_⟩, ?_⟩, ?_⟩, ?_⟩, ?_⟩, rfl⟩
    · omega
    · omega
    · omega
    · omega
    · omega
    · have := b.2.2.2.2.2.2.2.2.2.1
      constructor
      · intro hz; have := this.1 (by omega); omega
      · intro hz; have := this.2 (by omega); omega
  · rw [ew]
    unfold rdO
    simp only [t]
    cases o
    simp only at e1 e2 e3 e4 e5 b ⊢
    simp only [O.mk.injEq]
    refine ⟨e1, e2, e4, e5, ?_, e3, ?_, ?_⟩ <;> omega

theorem part_back (nm : List UInt8) (ws : List (List UInt8)) : ws = more nm ((part nm ws).1 : Int) ++ (part nm ws).2 := by
  unfold part
  split
  · rename_i a b r
    by_cases h : a = nm ∧ num b ≠ 0
    · rw [if_pos h]
      simp only
      unfold more
      rw [if_neg (by omega), num_dec_eq h.2, h.1]
      rfl
    · rw [if_neg h]; rfl
  · rfl

/-- What is read of words is written by these words. -/
theorem words_rd {ws : List (List UInt8)} (h : rdB ws = true) : wordsOf (rdO ws) = ws := by
  unfold rdB at h
  split at h
  · rename_i a b c d e tl
    simp only [Bool.and_eq_true, decide_eq_true_eq] at h
    obtain ⟨⟨⟨⟨⟨⟨h1, h2⟩, h3⟩, h4⟩, h5⟩, h6⟩, h7⟩ := h
    have h7' : (tail3 tl).2.2.2 = [] := List.isEmpty_iff.1 h7
    have p1 := part_back wAt tl
    have p2 := part_back wShow (part wAt tl).2
    have p3 := part_back wStop (part wShow (part wAt tl).2).2
    have et : tailWs (rdO (a :: b :: c :: d :: e :: tl)) = tl := by
      show more wAt ((tail3 tl).1 : Int) ++ (more wShow ((tail3 tl).2.1 : Int) ++ more wStop ((tail3 tl).2.2.1 : Int)) = tl
      have h8 : (part wStop (part wShow (part wAt tl).2).2).2 = [] := h7'
      rw [h8, List.append_nil] at p3
      conv => rhs; rw [p1, p2, p3]
      rfl
    unfold wordsOf
    rw [et]
    show dec (num a : Int) :: dec (num b : Int) :: sideW (sideN c : Int) :: kindW (kindN d : Int) :: dec (num e : Int) :: tl = _
    rw [num_dec_eq h1, num_dec_eq h2, num_dec_eq h5, sideW_sideN h3, kindW_kindN h4]
  · cases h

/-- What is wrong with a text: 0, 1, 2 or 3. -/
def rdE (t : List UInt8) : Int := if rdB (cut t) then chk (rdO (cut t)) else 2
/-- What is read of it. -/
def rdR (t : List UInt8) : O := if rdE t = 0 then rdO (cut t) else zeroO

theorem rd_txt {o : O} (h : chk o = 0) : rdE (txt o) = 0 ∧ rdR (txt o) = o := by
  have hw := rd_words h
  have e : rdE (txt o) = 0 := by unfold rdE; rw [cut_txt h, if_pos hw.1, hw.2, h]
  refine ⟨e, ?_⟩
  unfold rdR; rw [if_pos e, cut_txt h, hw.2]

theorem txt_rd {t : List UInt8} (h : rdE t = 0) : chk (rdR t) = 0 ∧ txt (rdR t) = t := by
  have hB : rdB (cut t) = true := by
    unfold rdE at h
    by_cases e : rdB (cut t) = true
    · exact e
    · rw [if_neg e] at h; omega
  have e : rdR t = rdO (cut t) := by unfold rdR; rw [if_pos h]
  unfold rdE at h
  rw [if_pos hB] at h
  rw [e]
  refine ⟨h, ?_⟩
  unfold txt
  rw [words_rd hB, glue_cut]

end Go.Proofs.YtpcomgnglidhhaaGreatDoor.ord
