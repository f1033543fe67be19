/-
  Proved: 'Rows.TopBarsSaid': the call of 'pitfloor/pittop.TopBars' returns true at every mode, every slice of commands and every number: as much as was told is in the bars, and the last of them closes at the last price. No condition.
-/
import Derived.Test.YtnfilcpnneckkaaGreatTBWalk
namespace Go.Proofs.YtnfilcpnneckkaaGreat.topBars
open Go.ChangeShapes Go.WideShapes Go.ChangeAt Go.RowKit
theorem own:ownKnob Tryz.prog.godebug=none:=by kernel_rfl
set_option maxRecDepth 100000 in
theorem lifted(os:Os)(started:os.Started)(H:Type)(enc:TypeId × Value→H) :
  ReturnsInHanded {} Tryz.checked os 3 .any (Rows.topBarsSpec.pre6 enc Tryz.prog Tryz.f3 Rows.topBarsRow.domain false) (Rows.topBarsSpec.post enc Tryz.prog Tryz.f3 false true false false):=by
 refine returnsInHanded_of_change (C:=Tryz.checked) own started (by kernel_rfl) Tryz.func3
  (ChangeSpec.witness6 (enc:=enc) (C:=Tryz.checked) false ⟨#[],#[.int .i64 0,.slice none 0 0,.int .i64 0],[]⟩ 8 (by kernel_rfl) (by kernel_rfl) (by kernel_rfl) (by kernel_rfl)) ?_
 intro W base args ds gs before ch hW hcnd _;have bY:∀ (j:Nat) t v,Tryz.f3.params[j]?=some t→args[j]?=some v→Value.okWide Tryz.prog W .any base t v:=ch;have hW':=hW;obtain⟨p,q,G2,hV,rfl,Pg,uN⟩:=hW;have hA:DataW.TrodAll enc Tryz.prog W 0 (fun _=>true) true Tryz.f3.params.toList args.toList ds p:=G2
 rw[Tryz.params3] at hA bY;obtain⟨v0,vs0,d0,ds0,p0,q0,hargs,rfl,rfl,h0,r0⟩:=trodAll_cons hA;obtain⟨v1,vs1,d1,ds1,p1,q1,rfl,rfl,rfl,h1,r1⟩:=trodAll_cons r0;obtain⟨v2,vs2,d2,ds2,p2,q2,rfl,rfl,rfl,h2,r2⟩:=trodAll_cons r1;obtain⟨rfl,rfl,rfl⟩:=trodAll_nil r2;obtain rfl:args=#[v0,v1,v2]:=by cases args;simp_all
 obtain⟨rfl,rfl⟩:=trodVars_none hV;obtain⟨a0,rfl,rfl,rfl,w0⟩:=open_int Tryz.underlying3 (bY 0 3 v0 rfl rfl) h0;obtain⟨zs,hS⟩:=flr.zFW (bY 1 22 v1 rfl rfl) h1;obtain⟨sq,sc,rfl,-⟩:=hS.form;obtain⟨a2,rfl,rfl,rfl,w2⟩:=open_int Tryz.underlying3 (bY 2 3 v2 rfl rfl) h2;clear G2 ch;simp only[jH,jU] at hW';have Hi:∀x∈p1,x.block<W.heap.size:=fun x hx=>by simpa using hW'.lt x hx
 have e1:Rows.topBarsSpec.fn H ([.lit (.int .i64 a0),d1,.lit (.int .i64 a2)]++[]) = { results:=[.lit (.bool true)],args:=[.lit (.int .i64 a0),d1,.lit (.int .i64 a2)] }:=by simp[Rows.topBarsSpec]
 refine(tap.zNr a0 a2 sq _ sc zs W hS).mono fun e W' ⟨he,hI⟩=>?_
 subst he;refine⟨_,rfl,_,_,_,[],[]++(p1++([]++[])),[],(by simpa using hW'),?_,?_,?_,hI.frame _,fun h=>by cases h⟩
 ·rw[e1];exact trodAll_mk1 (shut_bool Tryz.underlying4 true)
 ·rw[e1];exact trodAll_cons_mk (shut_int Tryz.underlying3 w0) (trodAll_cons_mk (Below.trod flr.zRh (by kernel_rfl) (of_decide_eq_true (by kernel_rfl)) h1 hI Hi) (trodAll_cons_mk (shut_int Tryz.underlying3 w2) trodAll_mk0))
 ·rw[e1];rfl
theorem proved:Rows.TopBarsSaid:=
 OpenClaim.holds_of_wide 3 Tryz.f3 rfl rfl rfl rfl rfl rfl rfl ⟨rfl,rfl,rfl,rfl,rfl⟩ rfl rfl rfl rfl rfl (by kernel_rfl) Tryz.func3 (by kernel_rfl)
  (of_decide_eq_true (by kernel_rfl)) (by unfold Func.isWrapper;first|(rw[if_pos (by decide +kernel)];kernel_rfl)|(rw[if_neg (by decide +kernel)];exact⟨rfl,rfl⟩))
  (fun os started H enc _=>lifted os started H enc)
#print axioms proved
end Go.Proofs.YtnfilcpnneckkaaGreat.topBars
namespace Go.Proofs.YtnfilcpnneckkaaGreat
theorem topBars_holds:Rows.TopBarsSaid:=topBars.proved
end Go.Proofs.YtnfilcpnneckkaaGreat
