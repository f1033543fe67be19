/- The walk of CallTells. -/
import Derived.Test.YtabcfmpmkdoieaaDoorCalRef6
import Derived.Test.YtabcfmpmkdoieaaDoorCalUnc
import Derived.Test.YtabcfmpmkdoieaaDoorCalSame
import Derived.Test.YtabcfmpmkdoieaaDoorWakSame
import Derived.Test.YtabcfmpmkdoieaaDoorTold
namespace Go.Proofs.YtabcfmpmkdoieaaDoor.cal
open Go.RowKit Go.Proofs.YtabcfmpmkdoieaaDoor.ord
open Go.Proofs.YtabcfmpmkdoieaaDoor.wak (Lies SL OwnM OwnQ flat)

theorem told_same {EV : Value} {K : Int} {w : World} (h : EV = errV K) (hl : told.Laid w) : Calls Tryd.prog 8 #[EV, .int .i64 K] w fun ev w' => ev = .returned (.bool true) ∧ told.Inv w w' := by
  have := told.error_any w K K w (told.Inv.start hl)
  rw [beq_self_eq_true] at this
  rw [h]
  exact this
theorem ownLen_sl {w : World} {b n : Nat} {q : Option Addr} {c : Nat} {zs : List O} (hn : n = zs.length) (h : OwnM w b 44 8 (.slice q n c) n (flat zs)) : SL w (.slice q n c) zs := by
  subst hn
  exact wak.OwnQ.sl h
theorem rcall_all (q : Option Addr) (n c : Nat) (zs : List O) (w : World) (hn : n = zs.length) (h : SL w (.slice q n c) zs) (hcx : c ≤ 9223372036854775807) :
    Calls Tryd.prog 4 #[.slice q n c] w fun e w' => e = .returned (.int .i64 (cE zs)) ∧ Below w.heap.size w w' := by
  by_cases hbig : 60 < n
  · have hbz : (60 : Int) < (n : Int) := by omega
    have e0 : cE zs = 4 := by unfold cE; rw [if_pos (by omega)]
    rw [e0]
    clear h hn e0 hcx
    go_enter Tryd.func4, Tryd.ntmps4
    go_wp2_with fail
    go_ret
    exact ⟨rfl, Below.refl _ _⟩
  · exact rcall_any q n c zs w hn h (by omega) hcx

set_option maxRecDepth 100000 in
set_option maxHeartbeats 4000000 in
theorem walk_bad (q : Option Addr) (n c : Nat) (zs : List O) (p : Int) (B w : World) (hI : told.Inv B w) (hn : n = zs.length) (hS : SL w (.slice q n c) zs) (hcx : c ≤ 9223372036854775807) (h0 : ¬ cE zs = 0) :
    Calls Tryd.prog 3 #[.slice q n c, .int .i64 p] w fun e w' => e = .returned (.bool true) ∧ told.Inv B w' := by
  have HI := hidC hI
  have HS : Hid (∀ V, Below w.heap.size w V → SL V (.slice q n c) zs) := fun V hV => hS.below hV
  have HC1 : Hid (∀ V, Below w.heap.size w V → Calls Tryd.prog 4 #[.slice q n c] V fun e w' => e = .returned (.int .i64 (cE zs)) ∧ Below w.heap.size w w') := fun V hV => (rcall_all q n c zs V hn (hS.below hV) hcx).mono fun e w' h => ⟨h.1, hV.trans (h.2.mono hV.size)⟩
  have HC2 : Hid (∀ V, Calls Tryd.prog 5 #[.int .i64 p] V fun e w' => e = .returned (.bool (prB p)) ∧ w' = V) := fun V => ref_price p V
  have HC4 : Hid (∀ V, Below w.heap.size w V → Calls Tryd.prog 7 #[.slice q n c, .int .i64 p] V fun e w' => e = .returned (.tuple #[.int .i64 (vV zs p), .int .i64 (vO zs p), errV (vE zs p)]) ∧ Below w.heap.size w w') := fun V hV => (volume_call _ zs p V (hS.below hV)).mono fun e w' h => ⟨h.1, hV.trans (h.2.mono hV.size)⟩
  have HC7 : Hid (∀ V, Below w.heap.size w V → Calls Tryd.prog 10 #[.slice q n c] V fun e w' => e = .returned (.tuple #[.int .i64 (pP zs), .int .i64 (pV zs), errV (pE zs)]) ∧ Below w.heap.size w w') := fun V hV => (price_call _ zs V (hS.below hV)).mono fun e w' h => ⟨h.1, hV.trans (h.2.mono hV.size)⟩
  have HER : Hid (∀ V (EV : Value) (K : Int), Below w.heap.size w V → EV = errV K → Calls Tryd.prog 8 #[EV, .int .i64 K] V fun e w' => e = .returned (.bool true) ∧ Below w.heap.size w w') := fun V EV K hV hE => (told_same hE (HI.out.on hV).laid).mono fun e w' h => ⟨h.1, hV.trans (h.2.2.mono hV.size)⟩
  have HEND : Hid (∀ V, Below w.heap.size w V → told.Inv B V) := fun V hV => HI.out.on hV
  have eF : vE zs p = cE zs := by unfold vE; rw [if_neg h0]
  have eV : vV zs p = 0 := by unfold vV; rw [if_neg (by rw [eF]; exact h0)]
  have eO : vO zs p = 0 := by unfold vO; rw [if_neg (by rw [eF]; exact h0)]
  have eK : pE zs = cE zs := by unfold pE; rw [if_neg h0]
  have eP : pP zs = 0 := by unfold pP; rw [if_neg (by rw [eK]; exact h0)]
  have eM : pV zs = 0 := by unfold pV; rw [if_neg (by rw [eK]; exact h0)]
  have hk : ¬ pE zs = 0 := by rw [eK]; exact h0
  have HC10 : Hid (∀ V, Below w.heap.size w V → Calls Tryd.prog 12 #[.slice q n c] V fun e w' => e = .returned (.tuple #[.int .i64 0, .slice none 0 0, .slice none 0 0, errV (pE zs)]) ∧ Below w.heap.size w w') := fun V hV => (uncross_bad _ zs V (hS.below hV) hk).mono fun e w' h => ⟨h.1, hV.trans (h.2.mono hV.size)⟩
  rw [eF, eV, eO] at HC4
  rw [eK, eP, eM] at HC7
  rw [eK] at HC10
  obtain ⟨EF, hEF⟩ : ∃ x, x = errV (cE zs) := ⟨_, rfl⟩
  rw [← hEF] at HC4
  obtain ⟨EK, hEK⟩ : ∃ x, x = errV (cE zs) := ⟨_, rfl⟩
  rw [← hEK] at HC7
  rw [← hEK] at HC10
  have HEF := hidC hEF
  have HEK := hidC hEK
  clear hEF hEK
  have hE : (cE zs == 0) = false := by simpa using h0
  generalize prB p = bp at *
  clear hI hS hcx hn eF eV eO eK eP eM hk h0
  generalize cE zs = E at *
  go_enter Tryd.func3, Tryd.ntmps3
  go_wp2_with fail
  refine (HC1.out _ (Below.refl _ _)).mono ?_
  rintro e w1 ⟨rfl, hb⟩
  have HB1 := hidC hb
  clear hb HC1
  go_wp2_with fail
  refine (HC2.out _).mono ?_
  rintro e w2 ⟨rfl, rfl⟩
  go_wp2_with fail
  refine (HC4.out _ HB1.out).mono ?_
  rintro e w4 ⟨rfl, hb⟩
  have HB4 := hidC hb
  clear hb HB1 HC4
  go_wp2_with fail
  refine (HER.out _ EF E HB4.out HEF.out).mono ?_
  rintro e w5 ⟨rfl, hb⟩
  have HB5 := hidC hb
  clear hb HB4
  go_wp2_with fail
  refine (HC7.out _ HB5.out).mono ?_
  rintro e w7 ⟨rfl, hb⟩
  have HB7 := hidC hb
  clear hb HB5 HC7
  go_wp2_with fail
  refine (HER.out _ EK E HB7.out HEK.out).mono ?_
  rintro e w8 ⟨rfl, hb⟩
  have HB8 := hidC hb
  clear hb HB7
  go_wp2_with fail
  refine (HC10.out _ HB8.out).mono ?_
  rintro e w9 ⟨rfl, hb⟩
  have HB9 := hidC hb
  clear hb HB8 HC10
  go_wp2_with fail
  refine (HER.out _ EK E HB9.out HEK.out).mono ?_
  rintro e w10 ⟨rfl, hb⟩
  have HB10 := hidC hb
  clear hb HB9
  go_wp2_with fail
  refine (trades_none none none 0 0 _).mono ?_
  rintro e w11 ⟨rfl, hb⟩
  have HB11 := hidC (HB10.out.trans (hb.mono HB10.out.size))
  clear hb HB10
  go_wp2_with fail
  refine (wak.orders_none none none 0 0 _).mono ?_
  rintro e w12 ⟨rfl, hb⟩
  have HB12 := hidC (HB11.out.trans (hb.mono HB11.out.size))
  clear hb HB11
  go_wp2_with fail
  go_ret
  exact ⟨rfl, HEND.out _ HB12.out⟩

set_option maxRecDepth 100000 in
set_option maxHeartbeats 4000000 in
theorem walk_n1 (q : Option Addr) (n c : Nat) (zs : List O) (p : Int) (B w : World) (hI : told.Inv B w) (hn : n = zs.length) (hS : SL w (.slice q n c) zs) (hcx : c ≤ 9223372036854775807) (h0 : cE zs = 0) (hp : prB p = true) (hv : (best zs).vol = 0) :
    Calls Tryd.prog 3 #[.slice q n c, .int .i64 p] w fun e w' => e = .returned (.bool true) ∧ told.Inv B w' := by
  have HI := hidC hI
  have HS : Hid (∀ V, Below w.heap.size w V → SL V (.slice q n c) zs) := fun V hV => hS.below hV
  have HC1 : Hid (∀ V, Below w.heap.size w V → Calls Tryd.prog 4 #[.slice q n c] V fun e w' => e = .returned (.int .i64 (cE zs)) ∧ Below w.heap.size w w') := fun V hV => (rcall_all q n c zs V hn (hS.below hV) hcx).mono fun e w' h => ⟨h.1, hV.trans (h.2.mono hV.size)⟩
  have HC2 : Hid (∀ V, Calls Tryd.prog 5 #[.int .i64 p] V fun e w' => e = .returned (.bool (prB p)) ∧ w' = V) := fun V => ref_price p V
  have HC4 : Hid (∀ V, Below w.heap.size w V → Calls Tryd.prog 7 #[.slice q n c, .int .i64 p] V fun e w' => e = .returned (.tuple #[.int .i64 (vV zs p), .int .i64 (vO zs p), errV (vE zs p)]) ∧ Below w.heap.size w w') := fun V hV => (volume_call _ zs p V (hS.below hV)).mono fun e w' h => ⟨h.1, hV.trans (h.2.mono hV.size)⟩
  have HC7 : Hid (∀ V, Below w.heap.size w V → Calls Tryd.prog 10 #[.slice q n c] V fun e w' => e = .returned (.tuple #[.int .i64 (pP zs), .int .i64 (pV zs), errV (pE zs)]) ∧ Below w.heap.size w w') := fun V hV => (price_call _ zs V (hS.below hV)).mono fun e w' h => ⟨h.1, hV.trans (h.2.mono hV.size)⟩
  have HER : Hid (∀ V (EV : Value) (K : Int), Below w.heap.size w V → EV = errV K → Calls Tryd.prog 8 #[EV, .int .i64 K] V fun e w' => e = .returned (.bool true) ∧ Below w.heap.size w w') := fun V EV K hV hE => (told_same hE (HI.out.on hV).laid).mono fun e w' h => ⟨h.1, hV.trans (h.2.2.mono hV.size)⟩
  have HEND : Hid (∀ V, Below w.heap.size w V → told.Inv B V) := fun V hV => HI.out.on hV
  have HGD := hidC (good_of h0)
  have eF : vE zs p = 0 := by unfold vE; rw [if_pos h0, hp]; rfl
  have eV : vV zs p = (ofAt zs p).vol := by unfold vV; rw [if_pos eF]
  have eO : vO zs p = (ofAt zs p).over := by unfold vO; rw [if_pos eF]
  have HC3 : Hid (∀ V, Below w.heap.size w V → Calls Tryd.prog 6 #[.slice q n c, .int .i64 p] V fun e w' => e = .returned (.tuple #[.int .i64 (ofAt zs p).vol, .int .i64 (ofAt zs p).over]) ∧ Below w.heap.size w w') := fun V hV => (rvol_any q n c zs p V hn (hS.below hV) HGD.out).mono fun e w' h => ⟨h.1, hV.trans (h.2.mono hV.size)⟩
  have eK : pE zs = 5 := by unfold pE; rw [if_pos h0, if_pos hv]
  have eP : pP zs = 0 := by unfold pP; rw [if_neg (by rw [eK]; decide)]
  have eM : pV zs = 0 := by unfold pV; rw [if_neg (by rw [eK]; decide)]
  have hk : ¬ pE zs = 0 := by rw [eK]; decide
  have HC6 : Hid (∀ V, Below w.heap.size w V → Calls Tryd.prog 9 #[.slice q n c] V fun e w' => e = .returned (.tuple #[.int .i64 0, .int .i64 0]) ∧ Below w.heap.size w w') := fun V hV => by
    have h := rprice_any q n c zs V hn (hS.below hV) HGD.out
    unfold rP rV at h
    rw [if_pos hv, if_pos hv] at h
    exact h.mono fun e w' h => ⟨h.1, hV.trans (h.2.mono hV.size)⟩
  have HC10 : Hid (∀ V, Below w.heap.size w V → Calls Tryd.prog 12 #[.slice q n c] V fun e w' => e = .returned (.tuple #[.int .i64 0, .slice none 0 0, .slice none 0 0, errV (pE zs)]) ∧ Below w.heap.size w w') := fun V hV => (uncross_bad _ zs V (hS.below hV) hk).mono fun e w' h => ⟨h.1, hV.trans (h.2.mono hV.size)⟩
  rw [eF, eV, eO] at HC4
  rw [eK, eP, eM] at HC7
  rw [eK] at HC10
  rw [h0] at HC1
  rw [hp] at HC2
  obtain ⟨EF, hEF⟩ : ∃ x, x = errV 0 := ⟨_, rfl⟩
  rw [← hEF] at HC4
  obtain ⟨EK, hEK⟩ : ∃ x, x = errV 5 := ⟨_, rfl⟩
  rw [← hEK] at HC7
  rw [← hEK] at HC10
  have HEF := hidC hEF
  have HEK := hidC hEK
  clear hEF hEK
  clear hI hS hcx hn eF eV eO eK h0 hp eP eM hk hv 
  generalize (ofAt zs p).vol = V8 at *
  generalize (ofAt zs p).over = V9 at *
  go_enter Tryd.func3, Tryd.ntmps3
  go_wp2_with fail
  refine (HC1.out _ (Below.refl _ _)).mono ?_
  rintro e w1 ⟨rfl, hb⟩
  have HB1 := hidC hb
  clear hb HC1
  go_wp2_with fail
  refine (HC2.out _).mono ?_
  rintro e w2 ⟨rfl, rfl⟩
  go_wp2_with fail
  refine (HC3.out _ HB1.out).mono ?_
  rintro e w3 ⟨rfl, hb⟩
  have HB3 := hidC hb
  clear hb HB1 HC3
  go_wp2_with fail
  refine (HC4.out _ HB3.out).mono ?_
  rintro e w4 ⟨rfl, hb⟩
  have HB4 := hidC hb
  clear hb HB3 HC4
  go_wp2_with fail
  refine (HER.out _ EF 0 HB4.out HEF.out).mono ?_
  rintro e w5 ⟨rfl, hb⟩
  have HB5 := hidC hb
  clear hb HB4
  go_wp2_with fail
  refine (HC6.out _ HB5.out).mono ?_
  rintro e w6 ⟨rfl, hb⟩
  have HB6 := hidC hb
  clear hb HB5 HC6
  go_wp2_with fail
  refine (HC7.out _ HB6.out).mono ?_
  rintro e w7 ⟨rfl, hb⟩
  have HB7 := hidC hb
  clear hb HB6 HC7
  go_wp2_with fail
  refine (HER.out _ EK 5 HB7.out HEK.out).mono ?_
  rintro e w8 ⟨rfl, hb⟩
  have HB8 := hidC hb
  clear hb HB7
  go_wp2_with fail
  refine (HC10.out _ HB8.out).mono ?_
  rintro e w9 ⟨rfl, hb⟩
  have HB9 := hidC hb
  clear hb HB8 HC10
  go_wp2_with fail
  refine (HER.out _ EK 5 HB9.out HEK.out).mono ?_
  rintro e w10 ⟨rfl, hb⟩
  have HB10 := hidC hb
  clear hb HB9
  go_wp2_with fail
  refine (trades_none none none 0 0 _).mono ?_
  rintro e w11 ⟨rfl, hb⟩
  have HB11 := hidC (HB10.out.trans (hb.mono HB10.out.size))
  clear hb HB10
  go_wp2_with fail
  refine (wak.orders_none none none 0 0 _).mono ?_
  rintro e w12 ⟨rfl, hb⟩
  have HB12 := hidC (HB11.out.trans (hb.mono HB11.out.size))
  clear hb HB11
  have k8 : (V8 == V8) = true := by simp
  have k9 : (V9 == V9) = true := by simp
  go_wp2_with fail
  go_ret
  exact ⟨rfl, HEND.out _ HB12.out⟩

set_option maxRecDepth 100000 in
set_option maxHeartbeats 4000000 in
theorem walk_n2 (q : Option Addr) (n c : Nat) (zs : List O) (p : Int) (B w : World) (hI : told.Inv B w) (hn : n = zs.length) (hS : SL w (.slice q n c) zs) (hcx : c ≤ 9223372036854775807) (h0 : cE zs = 0) (hp : prB p = false) (hv : (best zs).vol = 0) :
    Calls Tryd.prog 3 #[.slice q n c, .int .i64 p] w fun e w' => e = .returned (.bool true) ∧ told.Inv B w' := by
  have HI := hidC hI
  have HS : Hid (∀ V, Below w.heap.size w V → SL V (.slice q n c) zs) := fun V hV => hS.below hV
  have HC1 : Hid (∀ V, Below w.heap.size w V → Calls Tryd.prog 4 #[.slice q n c] V fun e w' => e = .returned (.int .i64 (cE zs)) ∧ Below w.heap.size w w') := fun V hV => (rcall_all q n c zs V hn (hS.below hV) hcx).mono fun e w' h => ⟨h.1, hV.trans (h.2.mono hV.size)⟩
  have HC2 : Hid (∀ V, Calls Tryd.prog 5 #[.int .i64 p] V fun e w' => e = .returned (.bool (prB p)) ∧ w' = V) := fun V => ref_price p V
  have HC4 : Hid (∀ V, Below w.heap.size w V → Calls Tryd.prog 7 #[.slice q n c, .int .i64 p] V fun e w' => e = .returned (.tuple #[.int .i64 (vV zs p), .int .i64 (vO zs p), errV (vE zs p)]) ∧ Below w.heap.size w w') := fun V hV => (volume_call _ zs p V (hS.below hV)).mono fun e w' h => ⟨h.1, hV.trans (h.2.mono hV.size)⟩
  have HC7 : Hid (∀ V, Below w.heap.size w V → Calls Tryd.prog 10 #[.slice q n c] V fun e w' => e = .returned (.tuple #[.int .i64 (pP zs), .int .i64 (pV zs), errV (pE zs)]) ∧ Below w.heap.size w w') := fun V hV => (price_call _ zs V (hS.below hV)).mono fun e w' h => ⟨h.1, hV.trans (h.2.mono hV.size)⟩
  have HER : Hid (∀ V (EV : Value) (K : Int), Below w.heap.size w V → EV = errV K → Calls Tryd.prog 8 #[EV, .int .i64 K] V fun e w' => e = .returned (.bool true) ∧ Below w.heap.size w w') := fun V EV K hV hE => (told_same hE (HI.out.on hV).laid).mono fun e w' h => ⟨h.1, hV.trans (h.2.2.mono hV.size)⟩
  have HEND : Hid (∀ V, Below w.heap.size w V → told.Inv B V) := fun V hV => HI.out.on hV
  have HGD := hidC (good_of h0)
  have eF : vE zs p = 1 := by unfold vE; rw [if_pos h0, hp]; rfl
  have eV : vV zs p = 0 := by unfold vV; rw [if_neg (by rw [eF]; decide)]
  have eO : vO zs p = 0 := by unfold vO; rw [if_neg (by rw [eF]; decide)]
  have eK : pE zs = 5 := by unfold pE; rw [if_pos h0, if_pos hv]
  have eP : pP zs = 0 := by unfold pP; rw [if_neg (by rw [eK]; decide)]
  have eM : pV zs = 0 := by unfold pV; rw [if_neg (by rw [eK]; decide)]
  have hk : ¬ pE zs = 0 := by rw [eK]; decide
  have HC6 : Hid (∀ V, Below w.heap.size w V → Calls Tryd.prog 9 #[.slice q n c] V fun e w' => e = .returned (.tuple #[.int .i64 0, .int .i64 0]) ∧ Below w.heap.size w w') := fun V hV => by
    have h := rprice_any q n c zs V hn (hS.below hV) HGD.out
    unfold rP rV at h
    rw [if_pos hv, if_pos hv] at h
    exact h.mono fun e w' h => ⟨h.1, hV.trans (h.2.mono hV.size)⟩
  have HC10 : Hid (∀ V, Below w.heap.size w V → Calls Tryd.prog 12 #[.slice q n c] V fun e w' => e = .returned (.tuple #[.int .i64 0, .slice none 0 0, .slice none 0 0, errV (pE zs)]) ∧ Below w.heap.size w w') := fun V hV => (uncross_bad _ zs V (hS.below hV) hk).mono fun e w' h => ⟨h.1, hV.trans (h.2.mono hV.size)⟩
  rw [eF, eV, eO] at HC4
  rw [eK, eP, eM] at HC7
  rw [eK] at HC10
  rw [h0] at HC1
  rw [hp] at HC2
  obtain ⟨EF, hEF⟩ : ∃ x, x = errV 1 := ⟨_, rfl⟩
  rw [← hEF] at HC4
  obtain ⟨EK, hEK⟩ : ∃ x, x = errV 5 := ⟨_, rfl⟩
  rw [← hEK] at HC7
  rw [← hEK] at HC10
  have HEF := hidC hEF
  have HEK := hidC hEK
  clear hEF hEK
  clear hI hS hcx hn eF eV eO eK h0 hp eP eM hk hv 
  go_enter Tryd.func3, Tryd.ntmps3
  go_wp2_with fail
  refine (HC1.out _ (Below.refl _ _)).mono ?_
  rintro e w1 ⟨rfl, hb⟩
  have HB1 := hidC hb
  clear hb HC1
  go_wp2_with fail
  refine (HC2.out _).mono ?_
  rintro e w2 ⟨rfl, rfl⟩
  go_wp2_with fail
  refine (HC4.out _ HB1.out).mono ?_
  rintro e w4 ⟨rfl, hb⟩
  have HB4 := hidC hb
  clear hb HB1 HC4
  go_wp2_with fail
  refine (HER.out _ EF 1 HB4.out HEF.out).mono ?_
  rintro e w5 ⟨rfl, hb⟩
  have HB5 := hidC hb
  clear hb HB4
  go_wp2_with fail
  refine (HC6.out _ HB5.out).mono ?_
  rintro e w6 ⟨rfl, hb⟩
  have HB6 := hidC hb
  clear hb HB5 HC6
  go_wp2_with fail
  refine (HC7.out _ HB6.out).mono ?_
  rintro e w7 ⟨rfl, hb⟩
  have HB7 := hidC hb
  clear hb HB6 HC7
  go_wp2_with fail
  refine (HER.out _ EK 5 HB7.out HEK.out).mono ?_
  rintro e w8 ⟨rfl, hb⟩
  have HB8 := hidC hb
  clear hb HB7
  go_wp2_with fail
  refine (HC10.out _ HB8.out).mono ?_
  rintro e w9 ⟨rfl, hb⟩
  have HB9 := hidC hb
  clear hb HB8 HC10
  go_wp2_with fail
  refine (HER.out _ EK 5 HB9.out HEK.out).mono ?_
  rintro e w10 ⟨rfl, hb⟩
  have HB10 := hidC hb
  clear hb HB9
  go_wp2_with fail
  refine (trades_none none none 0 0 _).mono ?_
  rintro e w11 ⟨rfl, hb⟩
  have HB11 := hidC (HB10.out.trans (hb.mono HB10.out.size))
  clear hb HB10
  go_wp2_with fail
  refine (wak.orders_none none none 0 0 _).mono ?_
  rintro e w12 ⟨rfl, hb⟩
  have HB12 := hidC (HB11.out.trans (hb.mono HB11.out.size))
  clear hb HB11
  go_wp2_with fail
  go_ret
  exact ⟨rfl, HEND.out _ HB12.out⟩

set_option maxRecDepth 100000 in
set_option maxHeartbeats 4000000 in
theorem walk_o1 (q : Option Addr) (n c : Nat) (zs : List O) (p : Int) (B w : World) (hI : told.Inv B w) (hn : n = zs.length) (hS : SL w (.slice q n c) zs) (hcx : c ≤ 9223372036854775807) (h0 : cE zs = 0) (hp : prB p = true) (hv : ¬ (best zs).vol = 0) :
    Calls Tryd.prog 3 #[.slice q n c, .int .i64 p] w fun e w' => e = .returned (.bool true) ∧ told.Inv B w' := by
  have HI := hidC hI
  have HS : Hid (∀ V, Below w.heap.size w V → SL V (.slice q n c) zs) := fun V hV => hS.below hV
  have HC1 : Hid (∀ V, Below w.heap.size w V → Calls Tryd.prog 4 #[.slice q n c] V fun e w' => e = .returned (.int .i64 (cE zs)) ∧ Below w.heap.size w w') := fun V hV => (rcall_all q n c zs V hn (hS.below hV) hcx).mono fun e w' h => ⟨h.1, hV.trans (h.2.mono hV.size)⟩
  have HC2 : Hid (∀ V, Calls Tryd.prog 5 #[.int .i64 p] V fun e w' => e = .returned (.bool (prB p)) ∧ w' = V) := fun V => ref_price p V
  have HC4 : Hid (∀ V, Below w.heap.size w V → Calls Tryd.prog 7 #[.slice q n c, .int .i64 p] V fun e w' => e = .returned (.tuple #[.int .i64 (vV zs p), .int .i64 (vO zs p), errV (vE zs p)]) ∧ Below w.heap.size w w') := fun V hV => (volume_call _ zs p V (hS.below hV)).mono fun e w' h => ⟨h.1, hV.trans (h.2.mono hV.size)⟩
  have HC7 : Hid (∀ V, Below w.heap.size w V → Calls Tryd.prog 10 #[.slice q n c] V fun e w' => e = .returned (.tuple #[.int .i64 (pP zs), .int .i64 (pV zs), errV (pE zs)]) ∧ Below w.heap.size w w') := fun V hV => (price_call _ zs V (hS.below hV)).mono fun e w' h => ⟨h.1, hV.trans (h.2.mono hV.size)⟩
  have HER : Hid (∀ V (EV : Value) (K : Int), Below w.heap.size w V → EV = errV K → Calls Tryd.prog 8 #[EV, .int .i64 K] V fun e w' => e = .returned (.bool true) ∧ Below w.heap.size w w') := fun V EV K hV hE => (told_same hE (HI.out.on hV).laid).mono fun e w' h => ⟨h.1, hV.trans (h.2.2.mono hV.size)⟩
  have HEND : Hid (∀ V, Below w.heap.size w V → told.Inv B V) := fun V hV => HI.out.on hV
  have HGD := hidC (good_of h0)
  have eF : vE zs p = 0 := by unfold vE; rw [if_pos h0, hp]; rfl
  have eV : vV zs p = (ofAt zs p).vol := by unfold vV; rw [if_pos eF]
  have eO : vO zs p = (ofAt zs p).over := by unfold vO; rw [if_pos eF]
  have HC3 : Hid (∀ V, Below w.heap.size w V → Calls Tryd.prog 6 #[.slice q n c, .int .i64 p] V fun e w' => e = .returned (.tuple #[.int .i64 (ofAt zs p).vol, .int .i64 (ofAt zs p).over]) ∧ Below w.heap.size w w') := fun V hV => (rvol_any q n c zs p V hn (hS.below hV) HGD.out).mono fun e w' h => ⟨h.1, hV.trans (h.2.mono hV.size)⟩
  have eK : pE zs = 0 := by unfold pE; rw [if_pos h0, if_neg hv]
  obtain ⟨-, eP, eM, eW, m0, m6, pp, o1, o2, -⟩ := price_zero eK
  have hP0 : (pP zs == 0) = false := by
    have : ¬ pP zs = 0 := by
      unfold prB at pp
      simp at pp
      omega
    simpa using this
  have HC6 : Hid (∀ V, Below w.heap.size w V → Calls Tryd.prog 9 #[.slice q n c] V fun e w' => e = .returned (.tuple #[.int .i64 (pP zs), .int .i64 (pV zs)]) ∧ Below w.heap.size w w') := fun V hV => by
    have h := rprice_any q n c zs V hn (hS.below hV) HGD.out
    unfold rP rV at h
    rw [if_neg hv, if_neg hv, ← eP, ← eM] at h
    exact h.mono fun e w' h => ⟨h.1, hV.trans (h.2.mono hV.size)⟩
  have hpos : 0 < n := by
    rw [hn]
    exact List.length_pos_of_mem o2
  obtain ⟨G, o, rfl, hG, hL⟩ := sl_some hS hpos
  have HC9 : Hid (∀ V, Below w.heap.size w V → Calls Tryd.prog 11 #[.slice (some ⟨G, o, none⟩) n c, .int .i64 (pP zs), .int .i64 (pV zs)] V fun e w' => RUPost (pP zs) (pV zs) zs V e w') := fun V hV => runc_any G o n c zs (pP zs) (pV zs) V hn (hL.below hG hV) HGD.out hpos eW m6
  have HC10 : Hid (∀ V, Below w.heap.size w V → Calls Tryd.prog 12 #[.slice (some ⟨G, o, none⟩) n c] V fun e w' => UncPost zs (pP zs) (pV zs) V e w') := fun V hV => uncross_fine _ zs V (hS.below hV) eK
  rw [eF, eV, eO] at HC4
  rw [eK] at HC7
  rw [h0] at HC1
  rw [hp] at HC2
  obtain ⟨EF, hEF⟩ : ∃ x, x = errV 0 := ⟨_, rfl⟩
  rw [← hEF] at HC4
  obtain ⟨EK, hEK⟩ : ∃ x, x = errV 0 := ⟨_, rfl⟩
  rw [← hEK] at HC7
  have HEF := hidC hEF
  have HEK := hidC hEK
  clear hEF hEK
  clear hI hS hcx hn eF eV eO eK h0 hp eP eM eW m0 m6 pp o2 hpos hG hL hv 
  generalize (ofAt zs p).vol = V8 at *
  generalize (ofAt zs p).over = V9 at *
  generalize pP zs = PP at *
  generalize pV zs = MM at *
  go_enter Tryd.func3, Tryd.ntmps3
  go_wp2_with fail
  refine (HC1.out _ (Below.refl _ _)).mono ?_
  rintro e w1 ⟨rfl, hb⟩
  have HB1 := hidC hb
  clear hb HC1
  go_wp2_with fail
  refine (HC2.out _).mono ?_
  rintro e w2 ⟨rfl, rfl⟩
  go_wp2_with fail
  refine (HC3.out _ HB1.out).mono ?_
  rintro e w3 ⟨rfl, hb⟩
  have HB3 := hidC hb
  clear hb HB1 HC3
  go_wp2_with fail
  refine (HC4.out _ HB3.out).mono ?_
  rintro e w4 ⟨rfl, hb⟩
  have HB4 := hidC hb
  clear hb HB3 HC4
  go_wp2_with fail
  refine (HER.out _ EF 0 HB4.out HEF.out).mono ?_
  rintro e w5 ⟨rfl, hb⟩
  have HB5 := hidC hb
  clear hb HB4
  go_wp2_with fail
  refine (HC6.out _ HB5.out).mono ?_
  rintro e w6 ⟨rfl, hb⟩
  have HB6 := hidC hb
  clear hb HB5 HC6
  go_wp2_with fail
  refine (HC7.out _ HB6.out).mono ?_
  rintro e w7 ⟨rfl, hb⟩
  have HB7 := hidC hb
  clear hb HB6 HC7
  go_wp2_with fail
  refine (HER.out _ EK 0 HB7.out HEK.out).mono ?_
  rintro e w8 ⟨rfl, hb⟩
  have HB8 := hidC hb
  clear hb HB7
  go_wp2_with fail
  refine (HC9.out _ HB8.out).mono ?_
  rintro e w9 ⟨qt1, mt1, ct1, qr1, mr1, cr1, ts1, os1, rfl, e1, e2, hu1, e3, ht1, hr1, hb⟩
  have HB9 := hidC (HB8.out.trans (hb.mono HB8.out.size))
  have HX1 := hidC (And.intro e1 (And.intro e2 (And.intro hu1 (And.intro e3 (And.intro ht1 hr1)))))
  clear e1 e2 hu1 e3 ht1 hr1 hb HB8 HC9
  go_wp2_with fail
  refine (HC10.out _ HB9.out).mono ?_
  rintro e w10 ⟨qt2, mt2, ct2, qr2, mr2, cr2, ts2, os2, rfl, f1, f2, hu2, -, -, -, ht2, hr2, -, hb⟩
  obtain ⟨e1, e2, hu1, e3, ht1, hr1⟩ := HX1.out
  obtain ⟨rfl, rfl⟩ := u_det hu1 hu2
  have em : mt2 = mt1 := by rw [f1, e1]
  have er : mr2 = mr1 := by rw [f2, e2]
  subst em
  subst er
  have HB10 := hidC (HB9.out.trans (hb.mono HB9.out.size))
  have HT1 := hidC (OwnM.below ht1 hb)
  have HT2 := hidC ht2
  have HR1 := hidC (OwnM.below hr1 hb)
  have HR2 := hidC hr2
  have HE1 : Hid (mt2 = ts1.length ∧ mt2 ≤ 1000 ∧ mr2 = (os1.filter nz).length) := ⟨e1, by omega, e2⟩
  clear e1 e2 hu1 e3 ht1 hr1 f1 f2 hu2 ht2 hr2 hb HB9 HC10 HX1
  have HEN : Hid (∀ V, Below w.heap.size w V → Calls Tryd.prog 8 #[.nilIface, .int .i64 0] V fun e w' => e = .returned (.bool true) ∧ Below V.heap.size V w') := fun V hV => (told_same (K := 0) rfl (HI.out.on hV).laid).mono fun e w' h => ⟨h.1, h.2.2⟩
  go_wp2_with fail
  refine (HEN.out w10 HB10.out).mono ?_
  rintro e w11 ⟨rfl, hb⟩
  have HB11 := hidC (HB10.out.trans (hb.mono HB10.out.size))
  have HT1 := hidC (OwnM.below HT1.out hb)
  have HT2 := hidC (OwnM.below HT2.out hb)
  have HR1 := hidC (OwnM.below HR1.out hb)
  have HR2 := hidC (OwnM.below HR2.out hb)
  clear hb HB10
  go_wp2_with fail
  refine (trades_same qt2 qt1 mt2 ct2 ct1 _ _ ts1 _ HE1.out.1 HE1.out.2.1 HT2.out HT1.out).mono ?_
  rintro e w12 ⟨rfl, hb⟩
  have HB12 := hidC (HB11.out.trans (hb.mono HB11.out.size))
  have HQ1 : Hid (SL w12 (.slice qr1 mr2 cr1) (os1.filter nz)) := ownLen_sl HE1.out.2.2 (OwnM.below HR1.out hb)
  have HQ2 : Hid (SL w12 (.slice qr2 mr2 cr2) (os1.filter nz)) := ownLen_sl HE1.out.2.2 (OwnM.below HR2.out hb)
  clear hb HB11 HT1 HT2 HR1 HR2 HE1
  go_wp2_with fail
  refine (wak.orders_same _ _ (os1.filter nz) _ HQ2.out HQ1.out).mono ?_
  rintro e w13 ⟨rfl, hb⟩
  have HB13 := hidC (HB12.out.trans (hb.mono HB12.out.size))
  clear hb HB12 HQ1 HQ2
  have k8 : (V8 == V8) = true := by simp
  have k9 : (V9 == V9) = true := by simp
  have kp : (PP == PP) = true := by simp
  have km : (MM == MM) = true := by simp
  go_wp2_with fail
  go_ret
  exact ⟨rfl, HEND.out _ HB13.out⟩

set_option maxRecDepth 100000 in
set_option maxHeartbeats 4000000 in
theorem walk_o2 (q : Option Addr) (n c : Nat) (zs : List O) (p : Int) (B w : World) (hI : told.Inv B w) (hn : n = zs.length) (hS : SL w (.slice q n c) zs) (hcx : c ≤ 9223372036854775807) (h0 : cE zs = 0) (hp : prB p = false) (hv : ¬ (best zs).vol = 0) :
    Calls Tryd.prog 3 #[.slice q n c, .int .i64 p] w fun e w' => e = .returned (.bool true) ∧ told.Inv B w' := by
  have HI := hidC hI
  have HS : Hid (∀ V, Below w.heap.size w V → SL V (.slice q n c) zs) := fun V hV => hS.below hV
  have HC1 : Hid (∀ V, Below w.heap.size w V → Calls Tryd.prog 4 #[.slice q n c] V fun e w' => e = .returned (.int .i64 (cE zs)) ∧ Below w.heap.size w w') := fun V hV => (rcall_all q n c zs V hn (hS.below hV) hcx).mono fun e w' h => ⟨h.1, hV.trans (h.2.mono hV.size)⟩
  have HC2 : Hid (∀ V, Calls Tryd.prog 5 #[.int .i64 p] V fun e w' => e = .returned (.bool (prB p)) ∧ w' = V) := fun V => ref_price p V
  have HC4 : Hid (∀ V, Below w.heap.size w V → Calls Tryd.prog 7 #[.slice q n c, .int .i64 p] V fun e w' => e = .returned (.tuple #[.int .i64 (vV zs p), .int .i64 (vO zs p), errV (vE zs p)]) ∧ Below w.heap.size w w') := fun V hV => (volume_call _ zs p V (hS.below hV)).mono fun e w' h => ⟨h.1, hV.trans (h.2.mono hV.size)⟩
  have HC7 : Hid (∀ V, Below w.heap.size w V → Calls Tryd.prog 10 #[.slice q n c] V fun e w' => e = .returned (.tuple #[.int .i64 (pP zs), .int .i64 (pV zs), errV (pE zs)]) ∧ Below w.heap.size w w') := fun V hV => (price_call _ zs V (hS.below hV)).mono fun e w' h => ⟨h.1, hV.trans (h.2.mono hV.size)⟩
  have HER : Hid (∀ V (EV : Value) (K : Int), Below w.heap.size w V → EV = errV K → Calls Tryd.prog 8 #[EV, .int .i64 K] V fun e w' => e = .returned (.bool true) ∧ Below w.heap.size w w') := fun V EV K hV hE => (told_same hE (HI.out.on hV).laid).mono fun e w' h => ⟨h.1, hV.trans (h.2.2.mono hV.size)⟩
  have HEND : Hid (∀ V, Below w.heap.size w V → told.Inv B V) := fun V hV => HI.out.on hV
  have HGD := hidC (good_of h0)
  have eF : vE zs p = 1 := by unfold vE; rw [if_pos h0, hp]; rfl
  have eV : vV zs p = 0 := by unfold vV; rw [if_neg (by rw [eF]; decide)]
  have eO : vO zs p = 0 := by unfold vO; rw [if_neg (by rw [eF]; decide)]
  have eK : pE zs = 0 := by unfold pE; rw [if_pos h0, if_neg hv]
  obtain ⟨-, eP, eM, eW, m0, m6, pp, o1, o2, -⟩ := price_zero eK
  have hP0 : (pP zs == 0) = false := by
    have : ¬ pP zs = 0 := by
      unfold prB at pp
      simp at pp
      omega
    simpa using this
  have HC6 : Hid (∀ V, Below w.heap.size w V → Calls Tryd.prog 9 #[.slice q n c] V fun e w' => e = .returned (.tuple #[.int .i64 (pP zs), .int .i64 (pV zs)]) ∧ Below w.heap.size w w') := fun V hV => by
    have h := rprice_any q n c zs V hn (hS.below hV) HGD.out
    unfold rP rV at h
    rw [if_neg hv, if_neg hv, ← eP, ← eM] at h
    exact h.mono fun e w' h => ⟨h.1, hV.trans (h.2.mono hV.size)⟩
  have hpos : 0 < n := by
    rw [hn]
    exact List.length_pos_of_mem o2
  obtain ⟨G, o, rfl, hG, hL⟩ := sl_some hS hpos
  have HC9 : Hid (∀ V, Below w.heap.size w V → Calls Tryd.prog 11 #[.slice (some ⟨G, o, none⟩) n c, .int .i64 (pP zs), .int .i64 (pV zs)] V fun e w' => RUPost (pP zs) (pV zs) zs V e w') := fun V hV => runc_any G o n c zs (pP zs) (pV zs) V hn (hL.below hG hV) HGD.out hpos eW m6
  have HC10 : Hid (∀ V, Below w.heap.size w V → Calls Tryd.prog 12 #[.slice (some ⟨G, o, none⟩) n c] V fun e w' => UncPost zs (pP zs) (pV zs) V e w') := fun V hV => uncross_fine _ zs V (hS.below hV) eK
  rw [eF, eV, eO] at HC4
  rw [eK] at HC7
  rw [h0] at HC1
  rw [hp] at HC2
  obtain ⟨EF, hEF⟩ : ∃ x, x = errV 1 := ⟨_, rfl⟩
  rw [← hEF] at HC4
  obtain ⟨EK, hEK⟩ : ∃ x, x = errV 0 := ⟨_, rfl⟩
  rw [← hEK] at HC7
  have HEF := hidC hEF
  have HEK := hidC hEK
  clear hEF hEK
  clear hI hS hcx hn eF eV eO eK h0 hp eP eM eW m0 m6 pp o2 hpos hG hL hv 
  generalize pP zs = PP at *
  generalize pV zs = MM at *
  go_enter Tryd.func3, Tryd.ntmps3
  go_wp2_with fail
  refine (HC1.out _ (Below.refl _ _)).mono ?_
  rintro e w1 ⟨rfl, hb⟩
  have HB1 := hidC hb
  clear hb HC1
  go_wp2_with fail
  refine (HC2.out _).mono ?_
  rintro e w2 ⟨rfl, rfl⟩
  go_wp2_with fail
  refine (HC4.out _ HB1.out).mono ?_
  rintro e w4 ⟨rfl, hb⟩
  have HB4 := hidC hb
  clear hb HB1 HC4
  go_wp2_with fail
  refine (HER.out _ EF 1 HB4.out HEF.out).mono ?_
  rintro e w5 ⟨rfl, hb⟩
  have HB5 := hidC hb
  clear hb HB4
  go_wp2_with fail
  refine (HC6.out _ HB5.out).mono ?_
  rintro e w6 ⟨rfl, hb⟩
  have HB6 := hidC hb
  clear hb HB5 HC6
  go_wp2_with fail
  refine (HC7.out _ HB6.out).mono ?_
  rintro e w7 ⟨rfl, hb⟩
  have HB7 := hidC hb
  clear hb HB6 HC7
  go_wp2_with fail
  refine (HER.out _ EK 0 HB7.out HEK.out).mono ?_
  rintro e w8 ⟨rfl, hb⟩
  have HB8 := hidC hb
  clear hb HB7
  go_wp2_with fail
  refine (HC9.out _ HB8.out).mono ?_
  rintro e w9 ⟨qt1, mt1, ct1, qr1, mr1, cr1, ts1, os1, rfl, e1, e2, hu1, e3, ht1, hr1, hb⟩
  have HB9 := hidC (HB8.out.trans (hb.mono HB8.out.size))
  have HX1 := hidC (And.intro e1 (And.intro e2 (And.intro hu1 (And.intro e3 (And.intro ht1 hr1)))))
  clear e1 e2 hu1 e3 ht1 hr1 hb HB8 HC9
  go_wp2_with fail
  refine (HC10.out _ HB9.out).mono ?_
  rintro e w10 ⟨qt2, mt2, ct2, qr2, mr2, cr2, ts2, os2, rfl, f1, f2, hu2, -, -, -, ht2, hr2, -, hb⟩
  obtain ⟨e1, e2, hu1, e3, ht1, hr1⟩ := HX1.out
  obtain ⟨rfl, rfl⟩ := u_det hu1 hu2
  have em : mt2 = mt1 := by rw [f1, e1]
  have er : mr2 = mr1 := by rw [f2, e2]
  subst em
  subst er
  have HB10 := hidC (HB9.out.trans (hb.mono HB9.out.size))
  have HT1 := hidC (OwnM.below ht1 hb)
  have HT2 := hidC ht2
  have HR1 := hidC (OwnM.below hr1 hb)
  have HR2 := hidC hr2
  have HE1 : Hid (mt2 = ts1.length ∧ mt2 ≤ 1000 ∧ mr2 = (os1.filter nz).length) := ⟨e1, by omega, e2⟩
  clear e1 e2 hu1 e3 ht1 hr1 f1 f2 hu2 ht2 hr2 hb HB9 HC10 HX1
  have HEN : Hid (∀ V, Below w.heap.size w V → Calls Tryd.prog 8 #[.nilIface, .int .i64 0] V fun e w' => e = .returned (.bool true) ∧ Below V.heap.size V w') := fun V hV => (told_same (K := 0) rfl (HI.out.on hV).laid).mono fun e w' h => ⟨h.1, h.2.2⟩
  go_wp2_with fail
  refine (HEN.out w10 HB10.out).mono ?_
  rintro e w11 ⟨rfl, hb⟩
  have HB11 := hidC (HB10.out.trans (hb.mono HB10.out.size))
  have HT1 := hidC (OwnM.below HT1.out hb)
  have HT2 := hidC (OwnM.below HT2.out hb)
  have HR1 := hidC (OwnM.below HR1.out hb)
  have HR2 := hidC (OwnM.below HR2.out hb)
  clear hb HB10
  go_wp2_with fail
  refine (trades_same qt2 qt1 mt2 ct2 ct1 _ _ ts1 _ HE1.out.1 HE1.out.2.1 HT2.out HT1.out).mono ?_
  rintro e w12 ⟨rfl, hb⟩
  have HB12 := hidC (HB11.out.trans (hb.mono HB11.out.size))
  have HQ1 : Hid (SL w12 (.slice qr1 mr2 cr1) (os1.filter nz)) := ownLen_sl HE1.out.2.2 (OwnM.below HR1.out hb)
  have HQ2 : Hid (SL w12 (.slice qr2 mr2 cr2) (os1.filter nz)) := ownLen_sl HE1.out.2.2 (OwnM.below HR2.out hb)
  clear hb HB11 HT1 HT2 HR1 HR2 HE1
  go_wp2_with fail
  refine (wak.orders_same _ _ (os1.filter nz) _ HQ2.out HQ1.out).mono ?_
  rintro e w13 ⟨rfl, hb⟩
  have HB13 := hidC (HB12.out.trans (hb.mono HB12.out.size))
  clear hb HB12 HQ1 HQ2
  have kp : (PP == PP) = true := by simp
  have km : (MM == MM) = true := by simp
  go_wp2_with fail
  go_ret
  exact ⟨rfl, HEND.out _ HB13.out⟩

end Go.Proofs.YtabcfmpmkdoieaaDoor.cal
namespace Go.Proofs.YtabcfmpmkdoieaaDoor.callTells
open Go.RowKit Go.Proofs.YtabcfmpmkdoieaaDoor.ord Go.Proofs.YtabcfmpmkdoieaaDoor.cal

theorem walk {w : World} (v : Value) (zs : List O) (hS : wak.SL w v zs) (p : Int) (B : World) (hI : told.Inv B w) :
    Calls Tryd.prog 3 #[v, .int .i64 p] w fun e w' => e = .returned (.bool true) ∧ told.Inv B w' := by
  obtain ⟨q, c, rfl⟩ := sl_form hS
  have hcx : c ≤ 9223372036854775807 := by
    rcases hS with ⟨h, _⟩ | ⟨_, _, _, h, _, h3, _, _⟩
    · injection h with _ _ h3
      omega
    · injection h with _ _ h4
      omega
  by_cases h0 : cE zs = 0
  · cases hp : prB p with
    | true =>
      by_cases hv : (best zs).vol = 0
      · exact walk_n1 q _ c zs p B w hI rfl hS hcx h0 hp hv
      · exact walk_o1 q _ c zs p B w hI rfl hS hcx h0 hp hv
    | false =>
      by_cases hv : (best zs).vol = 0
      · exact walk_n2 q _ c zs p B w hI rfl hS hcx h0 hp hv
      · exact walk_o2 q _ c zs p B w hI rfl hS hcx h0 hp hv
  · exact walk_bad q _ c zs p B w hI rfl hS hcx h0
end Go.Proofs.YtabcfmpmkdoieaaDoor.callTells
