/- Contracts over this seat's translation: slices.stableCmpFunc, slices.SortStableFunc at sixty pointers or fewer. -/
import Derived.Test.YtabcfmpmkdoieaaDoorCalSym
namespace Go.Proofs.YtabcfmpmkdoieaaDoor.cal
open Go.RowKit Go.Lib Go.Sort

section
variable {key : Nat → Int} {cf : Nat → Nat → Int} {g : Nat} {cb : Array Value} {enc : Nat → Value} {w0 : World} {blk off cap n : Nat} {d0 : Array Nat}

theorem ins_any (eg : ∀ args w, (callFunc g args).run Tryd.prog w = .ok (.enter g args) w) (R : Row1 enc w0 blk off d0) (hs : d0.size = n) (hC : CmpLays1 Tryd.prog g cb enc cf blk off n w0) (hk : ∀ x y, cf x y < 0 ↔ key x < key y) (hn : n ≤ 1000)
    (F : Nat → Nat) (a b : Nat) (dk : Array Nat) (W : World) (hF : Fn dk n F) (S : SW enc w0 blk off dk W) (h1 : a ≤ b) (h2 : b ≤ n) (hT : TG key F n) :
    Calls Tryd.prog 66 #[.slice (some ⟨blk, off, none⟩) n cap, .int .i64 a, .int .i64 b, .func (.func g) #[] cb] W fun e w' => SymPost key enc w0 blk off n F a b e w' := by
  have hz := hF.1
  have hcon := Any.insertionSortCmpFunc_s Tryd.lins1 enc cf g cb blk off cap a b d0 dk w0 W eg (by rw [hs]; exact hC) R (by omega) S h1 (by omega) (by omega)
  change Calls Tryd.prog 66 _ _ _ at hcon
  rw [hz] at hcon
  refine hcon.mono ?_
  rintro e w' ⟨rfl, hS⟩
  obtain ⟨G, g1, g2⟩ := isort_any (key := key) (ltOf cf) (fun x y => by unfold ltOf; by_cases c : cf x y < 0; · rw [decide_eq_true c, decide_eq_true ((hk x y).1 c)]
                                                                        · rw [decide_eq_false c, decide_eq_false (fun h => c ((hk x y).2 h))]) a b n h2 F dk hF hT
  exact ⟨rfl, _, G, g1, hS, g2⟩

/-- What holds while blocks are sorted: the same elements, who stood ahead of equal keys. -/
def Kept (key : Nat → Int) (n : Nat) (F G : Nat → Nat) : Prop := Sm F G 0 n ∧ TG key G n
theorem Kept.mg {F G H : Nat → Nat} {a b : Nat} (h : Kept key n F G) (hb : b ≤ n) (hM : Mg key G H a b) : Kept key n F H :=
  ⟨h.1.trans (hM.2.1.wide hM.2.2 (Nat.zero_le _) hb), tg_mg h.2 hb hM⟩
theorem mg_far {G H : Nat → Nat} {a b c d : Nat} (hM : Mg key G H a b) (h : Srt key G c d) (hd : d ≤ a ∨ b ≤ c) : Srt key H c d := srt_cong h fun j h1 h2 => hM.2.2 j (by omega)

/-- What a sort leaves. -/
def StbPost (key : Nat → Int) (enc : Nat → Value) (w0 : World) (blk off n : Nat) (F : Nat → Nat) (e : Ending) (w' : World) : Prop :=
  e = .returned (.tuple #[]) ∧ ∃ d' G, Fn d' n G ∧ SW enc w0 blk off d' w' ∧ Srt key G 0 n ∧ Sm F G 0 n

/-- Blocks of twenty are sorted up to a. -/
def Bl (key : Nat → Int) (G : Nat → Nat) (a : Nat) : Prop := Srt key G 0 (min a 20) ∧ Srt key G 20 (min a 40) ∧ Srt key G 40 (min a 60)

set_option maxHeartbeats 4000000 in
set_option maxRecDepth 1000000 in
theorem stable_any (eg : ∀ args w, (callFunc g args).run Tryd.prog w = .ok (.enter g args) w) (R : Row1 enc w0 blk off d0) (hs : d0.size = n) (hC : CmpLays1 Tryd.prog g cb enc cf blk off n w0) (hk : ∀ x y, cf x y < 0 ↔ key x < key y) (hn : n ≤ 60)
    (F : Nat → Nat) (dk : Array Nat) (W : World) (hF : Fn dk n F) (S : SW enc w0 blk off dk W) (hT : TG key F n) :
    Calls Tryd.prog 54 #[.slice (some ⟨blk, off, none⟩) n cap, .int .i64 n, .func (.func g) #[] cb] W fun e w' => StbPost key enc w0 blk off n F e w' := by
  have HI : Hid (∀ (G : Nat → Nat) (a b : Nat) (dj : Array Nat) (V : World), Fn dj n G → SW enc w0 blk off dj V → a ≤ b → b ≤ n → TG key G n → Calls Tryd.prog 66 #[.slice (some ⟨blk, off, none⟩) n cap, .int .i64 a, .int .i64 b, .func (.func g) #[] cb] V fun e w' => SymPost key enc w0 blk off n G a b e w') :=
    fun G a b dj V x1 x2 x3 x4 x5 => ins_any eg R hs hC hk (by omega) G a b dj V x1 x2 x3 x4 x5
  have HY : Hid (∀ (G : Nat → Nat) (a m b : Nat) (dj : Array Nat) (V : World), Fn dj n G → SW enc w0 blk off dj V → a < m → m < b → b ≤ n → Srt key G a m → Srt key G m b → TT key G a m b → Calls Tryd.prog 67 #[.slice (some ⟨blk, off, none⟩) n cap, .int .i64 a, .int .i64 m, .int .i64 b, .func (.func g) #[] cb] V fun e w' => SymPost key enc w0 blk off n G a b e w') :=
    fun G a m b dj V x1 x2 x3 x4 x5 x6 x7 x8 => sym_any eg R hs hC hk (by omega) (b - a) G a m b dj V (Nat.le_refl _) x1 x2 x3 x4 x5 x6 x7 x8
  have HN := hidC hn
  have H0 : Hid (∃ dj G, Fn dj n G ∧ SW enc w0 blk off dj W ∧ Kept key n F G ∧ Bl key G 0) := ⟨dk, F, hF, S, ⟨Sm.refl _ _ _, hT⟩, fun i j h1 h2 h3 => by omega, fun i j h1 h2 h3 => by omega, fun i j h1 h2 h3 => by omega⟩
  clear hn hF S hT hC hk R hs eg
  go_enter Tryd.func54, Tryd.ntmps54
  go_wp2_with fail
  go_loopg [7, 8] 4 (fun gg s7 s8 wr => ∃ t a b : Nat, s7 = .int .i64 a ∧ s8 = .int .i64 b ∧ 4 - t ≤ gg ∧ Aside (a = 20 * t ∧ b = a + 20 ∧ a ≤ n ∧ ∃ dj G, Fn dj n G ∧ SW enc w0 blk off dj wr ∧ Kept key n F G ∧ Bl key G a))
  case atStart => exact ⟨0, 0, 20, rfl, rfl, Nat.le_refl _, rfl, rfl, Nat.zero_le _, H0.out⟩
  case round =>
    clear H0
    obtain ⟨t, a, b, rfl, rfl, hg, HA⟩ := hrel
    obtain ⟨a1, a2, a3, dj, G, hj, sj, kj, bj⟩ := HA.out
    have hn := HN.out
    by_cases hlt : b ≤ n
    · have hltz : (b : Int) ≤ (n : Int) := by omega
      have HC := hidC (HI.out G a b dj wr hj sj (by omega) hlt kj.2)
      have HX : Hid (t < 3 ∧ 4 - t ≤ gk ∧ b = 20 * (t + 1) ∧ b ≤ n) := ⟨by omega, hg, by omega, hlt⟩
      have HNX : Hid (∀ H, Mg key G H a b → Kept key n F H ∧ Bl key H b) := by
        intro H hM
        refine ⟨kj.mg hlt hM, ?_⟩
        obtain ⟨z1, z2, z3⟩ := bj
        have hS := hM.1
        have ht : t = 0 ∨ t = 1 ∨ t = 2 := by omega
        rcases ht with rfl | rfl | rfl
        · exact ⟨hS.sub (by omega) (by omega), fun i j h1 h2 h3 => by omega, fun i j h1 h2 h3 => by omega⟩
        · exact ⟨(mg_far hM z1 (.inl (by omega))).sub (by omega) (by omega), hS.sub (by omega) (by omega), fun i j h1 h2 h3 => by omega⟩
        · exact ⟨(mg_far hM z1 (.inl (by omega))).sub (by omega) (by omega), (mg_far hM z2 (.inl (by omega))).sub (by omega) (by omega), hS.sub (by omega) (by omega)⟩
      obtain ⟨b2, hb2⟩ : ∃ x, x = b + 20 := ⟨_, rfl⟩
      have hq : b2 ≤ 5000 := by omega
      have hw := addW b 20 b2 hb2 hq
      have HB2 := hidC hb2
      clear hj sj kj bj HA hg a1 a2 a3 hn hb2 hq hlt
      go_wp2_with fail
      refine HC.out.mono ?_
      rintro e w1 ⟨rfl, hp⟩
      have HP := hidC hp
      clear hp HC
      go_wp2_with fail
      go_roundg (4 - (t + 1))
      case measure => have h1 := HX.out; clear hw; omega
      case rel =>
        obtain ⟨d', H, k1, k2, k3⟩ := HP.out
        have h1 := HX.out
        exact ⟨t + 1, b, b2, rfl, by first | rfl | exact congrArg (Value.int .i64) hw, Nat.le_refl _, h1.2.2.1, HB2.out, h1.2.2.2, d', H, k1, k2, HNX.out H k3⟩
    · have hltz : ¬ (b : Int) ≤ (n : Int) := by omega
      have HC := hidC (HI.out G a n dj wr hj sj a3 (Nat.le_refl _) kj.2)
      have HNX : Hid (∀ H, Mg key G H a n → Kept key n F H ∧ Bl key H n) := by
        intro H hM
        refine ⟨kj.mg (Nat.le_refl _) hM, ?_⟩
        obtain ⟨z1, z2, z3⟩ := bj
        have hS := hM.1
        have ht : t = 0 ∨ t = 1 ∨ t = 2 ∨ t = 3 := by omega
        rcases ht with rfl | rfl | rfl | rfl
        · exact ⟨hS.sub (by omega) (by omega), fun i j h1 h2 h3 => by omega, fun i j h1 h2 h3 => by omega⟩
        · exact ⟨(mg_far hM z1 (.inl (by omega))).sub (by omega) (by omega), hS.sub (by omega) (by omega), fun i j h1 h2 h3 => by omega⟩
        · exact ⟨(mg_far hM z1 (.inl (by omega))).sub (by omega) (by omega), (mg_far hM z2 (.inl (by omega))).sub (by omega) (by omega), hS.sub (by omega) (by omega)⟩
        · exact ⟨(mg_far hM z1 (.inl (by omega))).sub (by omega) (by omega), (mg_far hM z2 (.inl (by omega))).sub (by omega) (by omega), (mg_far hM z3 (.inl (by omega))).sub (by omega) (by omega)⟩
      clear hj sj kj bj HA hg a1 a2 a3 hn hlt
      go_wp2_with fail
      refine HC.out.mono ?_
      rintro e w1 ⟨rfl, hp⟩
      have HP : Hid (∃ d' H, Fn d' n H ∧ SW enc w0 blk off d' w1 ∧ Kept key n F H ∧ Bl key H n) := by
        obtain ⟨d', H, k1, k2, k3⟩ := hp
        exact ⟨d', H, k1, k2, HNX.out H k3⟩
      clear hp HC HNX
      go_wp2_with fail
      go_loopg [6, 7, 8, 9] 3 (fun gg s6 _ _ _ wr => ∃ t s : Nat, s6 = .int .i64 s ∧ 3 - t ≤ gg ∧ Aside (((t = 0 ∧ s = 20) ∨ (t = 1 ∧ s = 40) ∨ (t = 2 ∧ s = 80)) ∧ ∃ dj G, Fn dj n G ∧ SW enc w0 blk off dj wr ∧ Kept key n F G ∧ Srt key G 0 (min s n) ∧ (s = 20 → Srt key G 20 (min 40 n)) ∧ Srt key G 40 n))
      case atStart =>
        obtain ⟨d', H, k1, k2, k3, k4⟩ := HP.out
        exact ⟨0, 20, rfl, by omega, .inl ⟨rfl, rfl⟩, d', H, k1, k2, k3, k4.1.sub (Nat.le_refl _) (by omega), fun _ => k4.2.1.sub (Nat.le_refl _) (by omega), k4.2.2.sub (Nat.le_refl _) (by have := HN.out; omega)⟩
      case round =>
        clear HP hltz
        obtain ⟨t, s, rfl, hg, HA⟩ := hrel
        obtain ⟨a1, dj, G, hj, sj, kj, z1, z2, z3⟩ := HA.out
        have hn := HN.out
        by_cases hlt : s < n
        · rcases a1 with ⟨rfl, rfl⟩ | ⟨rfl, rfl⟩ | ⟨rfl, rfl⟩
          · -- blocks of twenty
            have hltz : (20 : Int) < (n : Int) := by omega
            by_cases h40 : 40 ≤ n
            · have h40z : (40 : Int) ≤ (n : Int) := by omega
              have h80z : ¬ (80 : Int) ≤ (n : Int) := by omega
              have h60z : ¬ (60 : Int) < (n : Int) := by omega
              have HC := hidC (HY.out G 0 20 40 dj wr hj sj (by omega) (by omega) h40 (z1.sub (Nat.le_refl _) (by omega)) ((z2 rfl).sub (Nat.le_refl _) (by omega)) (tg_tt kj.2 h40))
              have HNX : Hid (∀ H, Mg key G H 0 40 → Kept key n F H ∧ Srt key H 0 (min 40 n) ∧ Srt key H 40 n) := fun H hM => ⟨kj.mg h40 hM, hM.1.sub (Nat.le_refl _) (by omega), mg_far hM z3 (.inr (Nat.le_refl _))⟩
              have HG := hidC hg
              clear hj sj kj z1 z2 z3 HA hg hn hlt h40
              go_wp2_with fail
              go_loopg [7, 8] 1 (fun gg s7 s8 wr2 => (s7 = .int .i64 0 ∧ s8 = .int .i64 40 ∧ wr2 = wr ∧ 1 ≤ gg) ∨ (s7 = .int .i64 40 ∧ s8 = .int .i64 80 ∧ Aside (∃ d' H, Fn d' n H ∧ SW enc w0 blk off d' wr2 ∧ Kept key n F H ∧ Srt key H 0 (min 40 n) ∧ Srt key H 40 n)))
              case atStart => exact .inl ⟨rfl, rfl, rfl, Nat.le_refl _⟩
              case round =>
                rcases hrel with ⟨rfl, rfl, rfl, hg2⟩ | ⟨rfl, rfl, HP⟩
                · go_wp2_with fail
                  refine HC.out.mono ?_
                  rintro e w1 ⟨rfl, hp⟩
                  have HP : Hid (∃ d' H, Fn d' n H ∧ SW enc w0 blk off d' w1 ∧ Kept key n F H ∧ Srt key H 0 (min 40 n) ∧ Srt key H 40 n) := by
                    obtain ⟨d', H, k1, k2, k3⟩ := hp
                    exact ⟨d', H, k1, k2, HNX.out H k3⟩
                  clear hp HC HNX
                  go_wp2_with fail
                  go_roundg 0
                  case measure => omega
                  case rel => exact .inr ⟨rfl, rfl, HP.out⟩
                · clear HC HNX
                  go_wp2_with fail
                  go_roundg 2
                  case measure => have := HG.out; omega
                  case rel =>
                    obtain ⟨d', H, k1, k2, k3, k4, k5⟩ := HP.out
                    exact ⟨1, 40, rfl, by omega, .inr (.inl ⟨rfl, rfl⟩), d', H, k1, k2, k3, k4, fun h => by omega, k5⟩
            · have h40z : ¬ (40 : Int) ≤ (n : Int) := by omega
              have HC := hidC (HY.out G 0 20 n dj wr hj sj (by omega) hlt (Nat.le_refl _) (z1.sub (Nat.le_refl _) (by omega)) ((z2 rfl).sub (Nat.le_refl _) (by omega)) (tg_tt kj.2 (Nat.le_refl _)))
              have HNX : Hid (∀ H, Mg key G H 0 n → Kept key n F H ∧ Srt key H 0 (min 40 n) ∧ Srt key H 40 n) := fun H hM => ⟨kj.mg (Nat.le_refl _) hM, hM.1.sub (Nat.le_refl _) (by omega), fun i j h1 h2 h3 => by omega⟩
              have HG := hidC hg
              clear hj sj kj z1 z2 z3 HA hg hn hlt h40
              go_wp2_with fail
              go_loopg [7, 8] 0 (fun _ s7 s8 wr2 => s7 = .int .i64 0 ∧ s8 = .int .i64 40 ∧ wr2 = wr)
              case atStart => exact ⟨rfl, rfl, rfl⟩
              case round =>
                obtain ⟨rfl, rfl, rfl⟩ := hrel
                go_wp2_with fail
                refine HC.out.mono ?_
                rintro e w1 ⟨rfl, hp⟩
                have HP : Hid (∃ d' H, Fn d' n H ∧ SW enc w0 blk off d' w1 ∧ Kept key n F H ∧ Srt key H 0 (min 40 n) ∧ Srt key H 40 n) := by
                  obtain ⟨d', H, k1, k2, k3⟩ := hp
                  exact ⟨d', H, k1, k2, HNX.out H k3⟩
                clear hp HC HNX
                go_wp2_with fail
                go_roundg 2
                case measure => have := HG.out; omega
                case rel =>
                  obtain ⟨d', H, k1, k2, k3, k4, k5⟩ := HP.out
                  exact ⟨1, 40, rfl, by omega, .inr (.inl ⟨rfl, rfl⟩), d', H, k1, k2, k3, k4, fun h => by omega, k5⟩
          · -- blocks of forty
            have hltz : (40 : Int) < (n : Int) := by omega
            have h80z : ¬ (80 : Int) ≤ (n : Int) := by omega
            have HC := hidC (HY.out G 0 40 n dj wr hj sj (by omega) hlt (Nat.le_refl _) (z1.sub (Nat.le_refl _) (by omega)) z3 (tg_tt kj.2 (Nat.le_refl _)))
            have HNX : Hid (∀ H, Mg key G H 0 n → Kept key n F H ∧ Srt key H 0 (min 80 n) ∧ Srt key H 40 n) := fun H hM => ⟨kj.mg (Nat.le_refl _) hM, hM.1.sub (Nat.le_refl _) (by omega), hM.1.sub (by omega) (Nat.le_refl _)⟩
            have HG := hidC hg
            clear hj sj kj z1 z2 z3 HA hg hn hlt
            go_wp2_with fail
            go_loopg [7, 8] 0 (fun _ s7 s8 wr2 => s7 = .int .i64 0 ∧ s8 = .int .i64 80 ∧ wr2 = wr)
            case atStart => exact ⟨rfl, rfl, rfl⟩
            case round =>
              obtain ⟨rfl, rfl, rfl⟩ := hrel
              go_wp2_with fail
              refine HC.out.mono ?_
              rintro e w1 ⟨rfl, hp⟩
              have HP : Hid (∃ d' H, Fn d' n H ∧ SW enc w0 blk off d' w1 ∧ Kept key n F H ∧ Srt key H 0 (min 80 n) ∧ Srt key H 40 n) := by
                obtain ⟨d', H, k1, k2, k3⟩ := hp
                exact ⟨d', H, k1, k2, HNX.out H k3⟩
              clear hp HC HNX
              go_wp2_with fail
              go_roundg 1
              case measure => have := HG.out; omega
              case rel =>
                obtain ⟨d', H, k1, k2, k3, k4, k5⟩ := HP.out
                exact ⟨2, 80, rfl, by omega, .inr (.inr ⟨rfl, rfl⟩), d', H, k1, k2, k3, k4, fun h => by omega, k5⟩
          · exfalso; omega
        · have hltz : ¬ (s : Int) < (n : Int) := by omega
          have HE : Hid (∃ d' H, Fn d' n H ∧ SW enc w0 blk off d' wr ∧ Srt key H 0 n ∧ Sm F H 0 n) := ⟨dj, G, hj, sj, z1.sub (Nat.le_refl _) (by omega), kj.1⟩
          clear hj sj kj z1 z2 z3 HA hg hn hlt a1
          go_wp2_with fail
          go_end0
          obtain ⟨d', H, k1, k2, k3⟩ := HE.out
          exact ⟨rfl, d', H, k1, k2, k3⟩

set_option maxHeartbeats 1000000 in
theorem sortStable_any (eg : ∀ args w, (callFunc g args).run Tryd.prog w = .ok (.enter g args) w) (R : Row1 enc w0 blk off d0) (hs : d0.size = n) (hC : CmpLays1 Tryd.prog g cb enc cf blk off n w0) (hk : ∀ x y, cf x y < 0 ↔ key x < key y) (hn : n ≤ 60)
    (F : Nat → Nat) (dk : Array Nat) (W : World) (hF : Fn dk n F) (S : SW enc w0 blk off dk W) (hT : TG key F n) :
    Calls Tryd.prog 39 #[.slice (some ⟨blk, off, none⟩) n cap, .func (.func g) #[] cb] W fun e w' => StbPost key enc w0 blk off n F e w' := by
  have HC := hidC (stable_any (cap := cap) eg R hs hC hk hn F dk W hF S hT)
  clear R hs hC hk hn hF S hT eg
  go_enter Tryd.func39, Tryd.ntmps39
  go_wp2_with fail
  refine HC.out.mono ?_
  rintro e w1 ⟨rfl, hp⟩
  have HP := hidC hp
  clear hp HC
  go_wp2_with fail
  go_end0
  exact ⟨rfl, HP.out⟩
end
end Go.Proofs.YtabcfmpmkdoieaaDoor.cal
