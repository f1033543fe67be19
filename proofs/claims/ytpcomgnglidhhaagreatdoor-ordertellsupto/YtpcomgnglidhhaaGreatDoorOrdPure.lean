/- Plain facts on texts of orders: cutting at blanks, numbers as digits, and reading back what was written. -/
import Derived.Lib.ItoaNum
import Derived.Lib.Atoi
import Derived.Lib.SplitLaws
import Derived.Lib.Join
namespace Go.Proofs.YtpcomgnglidhhaaGreatDoor.ord
open Go

/-- A text cut at each blank. -/
def cut : List UInt8 → List (List UInt8)
  | [] => [[]]
  | c :: r => if c = 32 then [] :: cut r else
    match cut r with
    | [] => [[c]]
    | h :: t => (c :: h) :: t

theorem cut_ne (s : List UInt8) : cut s ≠ [] := by
  cases s with
  | nil => simp [cut]
  | cons c r =>
    unfold cut
    split
    · simp
    · split <;> simp

theorem cut_pos (s : List UInt8) : 1 ≤ (cut s).length := by
  have := cut_ne s
  cases h : cut s with
  | nil => exact absurd h this
  | cons a b => simp

theorem cut_blank (r : List UInt8) : cut (32 :: r) = [] :: cut r := by simp [cut]

theorem cut_other {c : UInt8} (h : c ≠ 32) (r : List UInt8) : ∃ a t, cut r = a :: t ∧ cut (c :: r) = (c :: a) :: t := by
  cases e : cut r with
  | nil => exact absurd e (cut_ne r)
  | cons a t => exact ⟨a, t, rfl, by simp [cut, h, e]⟩

/-- A text cut at its first k blanks. -/
def cutK : Nat → List UInt8 → List (List UInt8)
  | 0, s => [s]
  | k + 1, s => if (32 : UInt8) ∈ s then (s.takeWhile (· ≠ 32)) :: cutK k ((s.dropWhile (· ≠ 32)).tail) else [s]

theorem cut_free {s : List UInt8} (h : (32 : UInt8) ∉ s) : cut s = [s] := by
  induction s with
  | nil => rfl
  | cons c r ih =>
    have hc : c ≠ 32 := fun e => h (by simp [e])
    have hr : (32 : UInt8) ∉ r := fun e => h (by simp [e])
    simp [cut, hc, ih hr]

theorem cut_app {a : List UInt8} (h : (32 : UInt8) ∉ a) (r : List UInt8) : cut (a ++ 32 :: r) = a :: cut r := by
  induction a with
  | nil => simp [cut]
  | cons c a ih =>
    have hc : c ≠ 32 := fun e => h (by simp [e])
    have hr : (32 : UInt8) ∉ a := fun e => h (by simp [e])
    simp [cut, hc, ih hr]

theorem cut_take {s : List UInt8} (h : (32 : UInt8) ∈ s) :
    s = s.takeWhile (· ≠ 32) ++ 32 :: (s.dropWhile (· ≠ 32)).tail ∧ (32 : UInt8) ∉ s.takeWhile (· ≠ 32) := by
  induction s with
  | nil => simp at h
  | cons c r ih =>
    by_cases hc : c = 32
    · subst hc; simp [List.takeWhile, List.dropWhile]
    · have hr : (32 : UInt8) ∈ r := by
        rcases List.mem_cons.1 h with e | e
        · exact absurd e.symm hc
        · exact e
      have := ih hr
      have d : decide (c ≠ 32) = true := by simp [hc]
      rw [List.takeWhile_cons, List.dropWhile_cons, if_pos d, if_pos d]
      refine ⟨?_, ?_⟩
      · rw [List.cons_append]; exact congrArg _ this.1
      · intro e
        rcases List.mem_cons.1 e with e | e
        · exact hc e.symm
        · exact this.2 e

theorem cutK_length (k : Nat) (s : List UInt8) : (cutK k s).length = min (k + 1) (cut s).length := by
  induction k generalizing s with
  | zero => have := cut_pos s; simp [cutK]; omega
  | succ k ih =>
    unfold cutK
    split
    · rename_i h
      have e := cut_take h
      have e2 : cut s = s.takeWhile (· ≠ 32) :: cut ((s.dropWhile (· ≠ 32)).tail) := by
        conv => lhs; rw [e.1]
        exact cut_app e.2 _
      rw [e2, List.length_cons, List.length_cons, ih]; omega
    · rename_i h
      rw [cut_free h]; simp

theorem cutK_all (k : Nat) (s : List UInt8) (h : (cut s).length ≤ k + 1) : cutK k s = cut s := by
  induction k generalizing s with
  | zero =>
    by_cases hm : (32 : UInt8) ∈ s
    · have e := cut_take hm
      have e2 : cut s = s.takeWhile (· ≠ 32) :: cut ((s.dropWhile (· ≠ 32)).tail) := by
        conv => lhs; rw [e.1]
        exact cut_app e.2 _
      have := cut_pos ((s.dropWhile (· ≠ 32)).tail)
      rw [e2, List.length_cons] at h; omega
    · rw [cut_free hm]; rfl
  | succ k ih =>
    unfold cutK
    split
    · rename_i hm
      have e := cut_take hm
      have e2 : cut s = s.takeWhile (· ≠ 32) :: cut ((s.dropWhile (· ≠ 32)).tail) := by
        conv => lhs; rw [e.1]
        exact cut_app e.2 _
      rw [e2] at h ⊢
      rw [ih _ (by simpa using h)]
    · rename_i hm
      rw [cut_free hm]

/-- Words with a blank between. -/
def glue : List (List UInt8) → List UInt8
  | [] => []
  | [a] => a
  | a :: b :: r => a ++ 32 :: glue (b :: r)

theorem glue_cons (a : List UInt8) {r : List (List UInt8)} (h : r ≠ []) : glue (a :: r) = a ++ 32 :: glue r := by
  cases r with
  | nil => exact absurd rfl h
  | cons b r => rfl

theorem glue_cut (s : List UInt8) : glue (cut s) = s := by
  induction s with
  | nil => rfl
  | cons c r ih =>
    by_cases hc : c = 32
    · subst hc
      rw [cut_blank, glue_cons _ (cut_ne r), ih]; rfl
    · obtain ⟨a, t, h1, h2⟩ := cut_other hc r
      rw [h2]
      rw [h1] at ih
      cases t with
      | nil => simp only [glue] at ih ⊢; rw [ih]
      | cons b t => simp only [glue] at ih ⊢; rw [List.cons_append, ih]

theorem cut_glue (ws : List (List UInt8)) (hne : ws ≠ []) (h : ∀ a ∈ ws, (32 : UInt8) ∉ a) : cut (glue ws) = ws := by
  induction ws with
  | nil => exact absurd rfl hne
  | cons a r ih =>
    cases r with
    | nil => exact cut_free (h a (by simp))
    | cons b r =>
      rw [glue_cons a (by simp), cut_app (h a (by simp))]
      rw [ih (by simp) (fun x hx => h x (by simp [hx]))]

theorem glue_join (ws : List (List UInt8)) : Lib.join ws [32] = glue ws := by
  cases ws with
  | nil => rfl
  | cons a r =>
    rw [Lib.join_cons]
    induction r generalizing a with
    | nil => simp [Lib.joinTail, glue]
    | cons b r ih =>
      rw [glue_cons a (by simp), ← ih b]
      simp [Lib.joinTail]

/-- The library's cut is this one. -/
theorem splitK_cutK (k : Nat) (s : List UInt8) : Lib.splitK [32] 0 k s = cutK k s := by
  have hidx : ∀ s : List UInt8, ((32 : UInt8) ∉ s → Lib.index s [32] = -1) ∧ ((32 : UInt8) ∈ s → Lib.index s [32] = ((s.takeWhile (· ≠ 32)).length : Int)) := by
    intro s
    induction s with
    | nil => exact ⟨fun _ => rfl, fun h => by simp at h⟩
    | cons c r ih =>
      by_cases hc : c = 32
      · subst hc
        refine ⟨fun h => by simp at h, fun _ => ?_⟩
        simp [Lib.index, List.takeWhile]
      · have hp : ([32] : List UInt8).isPrefixOf (c :: r) = false := by
          simp [List.isPrefixOf]; exact fun e => hc e.symm
        refine ⟨fun h => ?_, fun h => ?_⟩
        · have := ih.1 (fun e => h (by simp [e]))
          simp [Lib.index, hp, this]
        · have hr : (32 : UInt8) ∈ r := by
            rcases List.mem_cons.1 h with e | e
            · exact absurd e.symm hc
            · exact e
          have := ih.2 hr
          have hn : ¬ (Lib.index r [32] == -1) = true := by rw [beq_iff_eq]; omega
          have d : decide (c ≠ 32) = true := by simp [hc]
          rw [Lib.index, hp, if_neg (by simp), if_neg hn, this, List.takeWhile_cons, if_pos d, List.length_cons]; omega
  induction k generalizing s with
  | zero => rfl
  | succ k ih =>
    unfold Lib.splitK cutK
    by_cases h : (32 : UInt8) ∈ s
    · have e := (hidx s).2 h
      have hn : ¬ (Lib.index s [32] == -1) = true := by rw [beq_iff_eq]; omega
      rw [if_pos h, if_neg hn, e, Int.toNat_natCast, Nat.add_zero, ih]
      have ct := cut_take h
      generalize hA : s.takeWhile (· ≠ 32) = A at *
      generalize hB : (s.dropWhile (· ≠ 32)).tail = B at *
      have e1 : s.take A.length = A := by rw [ct.1]; simp
      have e2 : s.drop (A.length + ([32] : List UInt8).length) = B := by rw [ct.1]; simp
      rw [e1, e2]
    · have e := (hidx s).1 h
      have hn : (Lib.index s [32] == -1) = true := by rw [beq_iff_eq]; exact e
      rw [if_neg h, if_pos hn]

/-! Numbers. -/

def digB (c : UInt8) : Bool := decide (48 ≤ c.toNat ∧ c.toNat ≤ 57)

theorem digB_iff (c : UInt8) : digB c = true ↔ 48 ≤ c.toNat ∧ c.toNat ≤ 57 := by unfold digB; simp

def dgv (c : UInt8) : Nat := c.toNat - 48

/-- The number that digits write behind one that stands already. -/
def valF (acc : Nat) (l : List UInt8) : Nat := l.foldl (fun n c => n * 10 + dgv c) acc

theorem valF_nil (acc : Nat) : valF acc [] = acc := rfl
theorem valF_cons (acc : Nat) (c : UInt8) (r : List UInt8) : valF acc (c :: r) = valF (acc * 10 + dgv c) r := by unfold valF; rw [List.foldl_cons]

def val (l : List UInt8) : Nat := valF 0 l

theorem valF_snoc (acc : Nat) (l : List UInt8) (c : UInt8) : valF acc (l ++ [c]) = valF acc l * 10 + dgv c := by
  unfold valF; rw [List.foldl_append]; rfl

theorem val_snoc (l : List UInt8) (c : UInt8) : val (l ++ [c]) = val l * 10 + dgv c := valF_snoc 0 l c

/-- Is a word a number: one to five digits, the first of which is not 0? -/
def numOk (l : List UInt8) : Bool := !l.isEmpty && decide (l.length ≤ 5) && decide (l.head? ≠ some 48) && l.all digB

/-- The number of a word, 0 of one that is none. -/
def num (l : List UInt8) : Nat := if numOk l then val l else 0

theorem numOk_iff (l : List UInt8) : numOk l = true ↔ l ≠ [] ∧ l.length ≤ 5 ∧ l.head? ≠ some 48 ∧ ∀ c ∈ l, digB c = true := by
  unfold numOk
  simp [List.all_eq_true, and_assoc]

theorem snoc_of (n : Nat) (l : List UInt8) (h : l.length = n + 1) : ∃ a c, l = a ++ [c] ∧ a.length = n := by
  have hne : l ≠ [] := fun e => by rw [e] at h; simp at h
  exact ⟨l.dropLast, l.getLast hne, (List.dropLast_concat_getLast hne).symm, by rw [List.length_dropLast]; omega⟩

theorem u8_of (c : UInt8) (h : 48 ≤ c.toNat) : UInt8.ofNat (48 + (c.toNat - 48)) = c := by
  have : 48 + (c.toNat - 48) = c.toNat := by omega
  rw [this]; simp

theorem dec_val (n : Nat) : ∀ l : List UInt8, l.length = n + 1 → l.head? ≠ some 48 → (∀ c ∈ l, digB c = true) →
    Lib.decDigits (val l) = l ∧ 1 ≤ val l ∧ val l < 10 ^ (n + 1) := by
  induction n with
  | zero =>
    intro l hl hh hd
    obtain ⟨a, c, rfl, ha⟩ := snoc_of 0 l hl
    have : a = [] := List.length_eq_zero_iff.1 ha
    subst this
    have hc := (digB_iff c).1 (hd c (by simp))
    have h48 : c.toNat ≠ 48 := fun e => hh (by rw [show c = 48 from UInt8.toNat_inj.1 (e.trans rfl)]; simp)
    have ev : val ([] ++ [c]) = c.toNat - 48 := by rw [val_snoc]; simp [val, valF_nil, dgv]
    rw [ev]
    refine ⟨?_, by omega, by omega⟩
    rw [Lib.decDigits_one (by omega), u8_of c hc.1]; rfl
  | succ n ih =>
    intro l hl hh hd
    obtain ⟨a, c, rfl, ha⟩ := snoc_of (n + 1) l hl
    have hne : a ≠ [] := fun e => by rw [e] at ha; simp at ha
    have hh' : a.head? ≠ some 48 := by
      cases a with
      | nil => exact absurd rfl hne
      | cons x a => simpa using hh
    obtain ⟨i1, i2, i3⟩ := ih a ha hh' (fun x hx => hd x (by simp [hx]))
    have hc := (digB_iff c).1 (hd c (by simp))
    rw [val_snoc, show dgv c = c.toNat - 48 from rfl]
    refine ⟨?_, by omega, by rw [Nat.pow_succ]; omega⟩
    rw [Lib.decDigits, dif_neg (by omega)]
    have e1 : (val a * 10 + (c.toNat - 48)) / 10 = val a := by omega
    have e2 : (val a * 10 + (c.toNat - 48)) % 10 = c.toNat - 48 := by omega
    rw [e1, e2, i1, u8_of c hc.1]

theorem u8_dig (d : Nat) (h : d < 10) : (UInt8.ofNat (48 + d)).toNat = 48 + d := by
  simp; omega

theorem val_dec : ∀ u : Nat, 1 ≤ u → (Lib.decDigits u).head? ≠ some 48 ∧ (∀ c ∈ Lib.decDigits u, digB c = true) ∧ val (Lib.decDigits u) = u ∧ Lib.decDigits u ≠ [] := by
  intro u
  induction u using Nat.strongRecOn with
  | _ u ih =>
    intro h1
    by_cases h : u < 10
    · rw [Lib.decDigits_one h]
      have e := u8_dig u h
      refine ⟨?_, ?_, ?_, by simp⟩
      · simp only [List.head?_cons, ne_eq, Option.some.injEq]
        intro e2
        have := congrArg UInt8.toNat e2
        rw [e] at this
        simp at this; omega
      · intro c hc
        simp only [List.mem_singleton] at hc
        subst hc
        rw [digB_iff, e]; omega
      · simp only [val, valF_cons, valF_nil, dgv]
        rw [e]; omega
    · obtain ⟨i1, i2, i3, i4⟩ := ih (u / 10) (by omega) (by omega)
      have e := u8_dig (u % 10) (by omega)
      rw [Lib.decDigits, dif_neg h]
      refine ⟨?_, ?_, ?_, by simp⟩
      · cases hx : Lib.decDigits (u / 10) with
        | nil => exact absurd hx i4
        | cons x r => rw [hx] at i1; simpa using i1
      · intro c hc
        rcases List.mem_append.1 hc with hc | hc
        · exact i2 c hc
        · simp only [List.mem_singleton] at hc
          subst hc
          rw [digB_iff, e]; omega
      · rw [val_snoc, i3, show dgv _ = UInt8.toNat _ - 48 from rfl, e]; omega

theorem dec_len : ∀ (k u : Nat), u < 10 ^ (k + 1) → (Lib.decDigits u).length ≤ k + 1 := by
  intro k
  induction k with
  | zero => intro u h; rw [Lib.decDigits_one (by simpa using h)]; simp
  | succ k ih =>
    intro u h
    by_cases h10 : u < 10
    · rw [Lib.decDigits_one h10]; simp
    · rw [Lib.decDigits, dif_neg h10, List.length_append]
      have := ih (u / 10) (by rw [Nat.pow_succ] at h; omega)
      simp; omega

/-- The digits of a number above 0 with at most five of them. -/
theorem numOk_dec (u : Nat) (h1 : 1 ≤ u) (h2 : u ≤ 99999) : numOk (Lib.decDigits u) = true := by
  obtain ⟨a, b, c, d⟩ := val_dec u h1
  rw [numOk_iff]
  exact ⟨d, dec_len 4 u (by omega), a, b⟩

theorem num_dec (u : Nat) (h1 : 1 ≤ u) (h2 : u ≤ 99999) : num (Lib.decDigits u) = u := by
  unfold num
  rw [if_pos (numOk_dec u h1 h2)]
  exact (val_dec u h1).2.2.1

theorem numOk_val {l : List UInt8} (h : numOk l = true) : Lib.decDigits (val l) = l ∧ 1 ≤ val l ∧ val l ≤ 99999 := by
  rw [numOk_iff] at h
  obtain ⟨h1, h2, h3, h4⟩ := h
  have hl : 1 ≤ l.length := by cases l with | nil => exact absurd rfl h1 | cons a b => simp
  obtain ⟨e1, e2, e3⟩ := dec_val (l.length - 1) l (by omega) h3 h4
  refine ⟨e1, e2, ?_⟩
  have : 10 ^ (l.length - 1 + 1) ≤ 10 ^ 5 := Nat.pow_le_pow_right (by omega) (by omega)
  omega

theorem num_le (l : List UInt8) : num l ≤ 99999 := by
  unfold num
  split
  · exact (numOk_val ‹_›).2.2
  · omega

theorem num_pos {l : List UInt8} (h : num l ≠ 0) : numOk l = true ∧ Lib.decDigits (num l) = l := by
  unfold num at h ⊢
  by_cases e : numOk l = true
  · rw [if_pos e]; exact ⟨e, (numOk_val e).1⟩
  · rw [if_neg e] at h; exact absurd rfl h

theorem num_zero_iff (l : List UInt8) : num l = 0 ↔ numOk l = false := by
  constructor
  · intro h
    cases e : numOk l with
    | false => rfl
    | true => have := numOk_val e; unfold num at h; rw [if_pos e] at h; omega
  · intro h; unfold num; rw [h]; rfl

theorem decFrom_val (l : List UInt8) (h : ∀ c ∈ l, digB c = true) : ∀ acc, Lib.decFrom acc l = some (valF acc l) := by
  induction l with
  | nil => intro acc; rw [valF_nil]; rfl
  | cons c r ih =>
    intro acc
    have hc := (digB_iff c).1 (h c (by simp))
    have e : Lib.digitVal c = some (dgv c) := by unfold Lib.digitVal; rw [if_pos hc]; rfl
    simp only [Lib.decFrom, e, valF_cons]
    exact ih (fun x hx => h x (by simp [hx])) _

/-- What the library reads of a word that is a number. -/
theorem atoi_num {l : List UInt8} (h : numOk l = true) : Lib.atoi l = some (num l : Int) := by
  have hn : num l = val l := by unfold num; rw [if_pos h]
  rw [numOk_iff] at h
  obtain ⟨h1, h2, h3, h4⟩ := h
  cases l with
  | nil => exact absurd rfl h1
  | cons c r =>
    have hc := (digB_iff c).1 (h4 c (by simp))
    have n45 : (c == 45) = false := by
      rw [beq_eq_false_iff_ne]; intro e; subst e; simp at hc
    have n43 : (c == 43) = false := by
      rw [beq_eq_false_iff_ne]; intro e; subst e; simp at hc
    unfold Lib.atoi
    simp only [n45, n43]
    unfold Lib.decNat
    rw [hn]
    simp [decFrom_val (c :: r) h4 0, val]

/-- What is read of a word that is none is not written so. -/
theorem atoi_none {l : List UInt8} (h : numOk l = false) (hl : l.length ≤ 5) (n : Int) (hn : 1 ≤ n) : Lib.itoa n ≠ l := by
  intro e
  unfold Lib.itoa at e
  rw [if_neg (by omega)] at e
  obtain ⟨a, b, c, d⟩ := val_dec n.toNat (by omega)
  rw [e] at a b c d
  have : numOk l = true := (numOk_iff l).2 ⟨d, hl, a, b⟩
  rw [h] at this; cases this

theorem num_free {l : List UInt8} (h : ∀ c ∈ l, digB c = true) : (32 : UInt8) ∉ l := by
  intro e
  have := (digB_iff 32).1 (h 32 e)
  simp at this

end Go.Proofs.YtpcomgnglidhhaaGreatDoor.ord
