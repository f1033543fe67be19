import Derived.Test.YtmhcghgfpfainaaGreatDoorTold
import Derived.Test.YtmhcghgfpfainaaGreatDoorRows
import Derived.OpenShut
import Derived.Deep.Slices
import Derived.Carry
set_option maxHeartbeats 16000000
set_option maxRecDepth 100000
namespace Go.Proofs.YtmhcghgfpfainaaGreatDoor
open Go.Proofs.Tryz
namespace tap
open Go.RowKit flr
open mee (T tV)
open spn (zAa zAg errV wAa wAb)
open wak (OwnM wAy)
def zIt:List Ev:=[⟨1,3,5,100,⟨0,0,0,0,0,0⟩⟩,⟨2,0,0,0,⟨3,4,1,2,100,2⟩⟩]
theorem zJw:tchk zIt=0:=by decide
theorem zNH(id:Int):zBP zIt id=if id=3 then some (3,100) else none:=by
 unfold zBP zIt;simp only[List.foldl_cons,List.foldl_nil,zEW];by_cases h:id=3
 ·subst h;simp[setF]
 ·simp[setF,h]
theorem zSk:FOk (zBP zIt):=by
 intro id a h;rw[zNH] at h;split at h
 ·cases h;omega
 ·cases h
theorem zNI:zKw zIt=[(3,3,100)]:=by
 unfold zKw;rw[if_pos zJw];refine zIn (zEO _) (by simp) fun⟨id,q,p⟩=>?_
 rw[zGp zSk,zNH];constructor
 ·intro h;split at h
  ·rename_i h3
   cases h;subst h3;simp
  ·cases h
 ·intro h;simp at h;obtain⟨rfl,rfl,rfl⟩:=h;simp
def zNJ:Obj:=.cells #[.int .i64 1,.int .i64 3,.int .i64 5,.int .i64 100,.int .i64 0,.int .i64 0,.int .i64 0,.int .i64 0,.int .i64 0,.int .i64 0,.int .i64 2,.int .i64 0,.int .i64 0,.int .i64 0,.int .i64 3,.int .i64 4,.int .i64 1,.int .i64 2,.int .i64 100,.int .i64 2] 31
theorem zSl(w:World):EL (w.alloc zNJ) (.slice (some ⟨w.heap.size,0,none⟩) 2 2) zIt:=by
 refine zQA (base:=0) (wAy rfl (jL _) (jA w _) (by simp) (nzR 2) (by unfold maxLen;omega) fun j u hu=>?_)
 unfold zNJ;rw[Nat.zero_add,World.cell?_alloc_at _ _ _ _ rfl];simpa [zAH,zIt,evL,tV] using hu
theorem zHJ(w:World):Calls prog 4 #[.slice (some ⟨w.heap.size,0,none⟩) 2 2] (w.alloc zNJ) fun e w'=>∃q c g off,e=.returned (.tuple #[.slice q 1 c,.nilIface])∧q=some ⟨g,off,none⟩∧g<w'.heap.size∧w'.cell? ⟨g,off,none⟩=some (.int .i64 3)∧w'.cell? ⟨g,off+1,none⟩=some (.int .i64 3)∧w'.cell? ⟨g,off+2,none⟩=some (.int .i64 100)∧Bw w w':=by
 refine(zJs _ _ _ (zSl w)).mono ?_;rintro e w'⟨x,rfl,ho,hb⟩;rw[zNI] at ho;rw[zJw,wAa];obtain⟨q,c,rfl⟩:=OwnM.form ho;obtain⟨g,off,rfl,-,hl,hc⟩:=Own3.at ho (k:=0) (by simp)
 have h0:=hc 0 _ rfl;have h1:=hc 1 _ rfl;have h2:=hc 2 _ rfl;simp only[Nat.zero_mul,Nat.add_zero] at h0 h1 h2;exact⟨_,c,g,off,rfl,rfl,hl,h0,h1,h2,((bzR _ _).alloc (nzR _) _).trans (hb.mono (by simp))⟩
theorem terr2(k e:Int)(w:World)(hL:told.Laid w) :
  Calls prog 8 #[errV k,.int .i64 e] w fun ev w'=>ev=.returned (.bool (k == e))∧Bw w w':=by
 go_enter func8,ntmps8;go_wp2_with (go_at_call 27;refine(told.zQj k _ hL).mono ?_;rintro e w' ⟨rfl,hb⟩)
 go_ret;exact⟨rfl,hb⟩
theorem el_cut{w:World}{q:Option Addr}{m c k:Nat}{all:List Ev}(h:EL w (.slice q m c) all)(hm:m=all.length)(hk:k≤m) :
  EL w (.slice q k c) (all.take k)∧(c=0→EL w (.slice q 0 0) (all.take k))∧(k=c→EL w (.slice q 0 0) (all.drop k))∧
   (∀g o,q=some ⟨g,o,none⟩→EL w (.slice (some ⟨g,o+k*10,none⟩) (m - k) (c - k)) (all.drop k))∧m≤c∧(q=none→c=0)∧∀a,q=some a→∃g o,a=⟨g,o,none⟩:=by
 rcases h with ⟨h1,h2⟩|⟨b,o,c3,h1,h2,h3,h5,h6⟩
 ·simp only[Value.slice.injEq] at h1;obtain⟨rfl,rfl,rfl⟩:=h1;subst h2;have Ug:k=0:=by omega
  subst Ug;exact⟨.inl ⟨rfl,rfl⟩,fun _=>.inl ⟨rfl,rfl⟩,fun _=>.inl ⟨rfl,rfl⟩,(fun g o e=>by cases e),nzR _,fun _=>rfl,(fun a e=>by cases e)⟩
 ·simp only[Value.slice.injEq] at h1;obtain⟨rfl,-,rfl⟩:=h1;have hl:(all.take k).length=k:=by rw[jJ];omega
  have hd:(all.drop k).length=m - k:=by rw[jQ,←hm]
  have hli:Lies w b o (all.take k):=fun j hj i v hv=>by
   have Po:j<all.length:=by rw[jJ] at hj;omega
   refine h6 j Po i v ?_;rw[getE _ _ hj,List.getElem_take] at hv;rw[getE _ _ Po];exact hv
  have hld:Lies w b (o+k*10) (all.drop k):=fun j hj i v hv=>by
   have Po:k+j<all.length:=by rw[jQ] at hj;omega
   have:=h6 (k+j) Po i v (by
    rw[getE _ _ hj,List.getElem_drop] at hv;rw[getE _ _ Po];exact hv)
   rw[show o+k*10+j*10+i=o+(k+j)*10+i by omega]
   exact this
  refine⟨.inr ⟨b,o,c,by rw[hl],by rw[hl];omega,h3,h5,hli⟩,fun hc=>?_,fun hc=>?_,fun g o2 hg=>?_,by omega,(fun e=>by cases e),(fun a e=>by cases e;exact⟨b,o,rfl⟩)⟩
  ·have Ug:k=0:=by omega
   exact .inr ⟨b,o,0,by rw[hl,Ug],by rw[hl];omega,by omega,h5,hli⟩
  ·have CX:all.drop k=[]:=List.drop_eq_nil_of_le (by omega)
   rw[CX];exact .inr ⟨b,o,0,rfl,nzR _,by omega,h5,fun j hj=>absurd hj (Nat.not_lt_zero j)⟩
  ·cases hg;exact .inr ⟨b,o+k*10,c - k,by rw[hd],by rw[hd];omega,by omega,h5,hld⟩
def zeroE:Value:=.agg #[.int .i64 0,.int .i64 0,.int .i64 0,.int .i64 0,.int .i64 0,.int .i64 0,.int .i64 0,.int .i64 0,.int .i64 0,.int .i64 0]
theorem infoE:(prog.info? 31).map (fun i=>(i.zero,i.size,i.bytes))=some (some zeroE,10,80):=by kernel_rfl
theorem infoE' : ∃i,prog.info? 31=some i∧i.zero=some zeroE∧i.size=10∧i.bytes=80:=by
 have h:=infoE;cases hq:prog.info? 31 with
 | none=>rw[hq] at h;simp at h
 | some i=>
  rw[hq] at h;simp only[Option.map_some,Option.some.injEq,Prod.mk.injEq] at h;exact⟨i,rfl,h.1,h.2.1,h.2.2⟩
theorem zKJ(l:List Ev):∀u∈zAH l,u.oneCell'=true:=by
 intro u hu;unfold zAH at hu;obtain⟨e,-,he⟩:=List.mem_flatMap.1 hu;simp only[evL,tV,List.cons_append,jU,List.mem_cons,List.not_mem_nil,or_false] at he;rcases he with rfl|rfl|rfl|rfl|rfl|rfl|rfl|rfl|rfl|rfl <;>rfl
section
variable {P:Program}(w:World)
theorem zER(base:Nat)(t ty e:TypeId)(i:TypeInfo)(size:Nat)(ht:P.underlying t=some (.slice e))(hi:P.info? e=some i)
  (v:Value) (n:Nat) (xs:List Value) (Hh:OwnM w base e size v n xs) (x:Option Addr) (c:Nat):(Builtin.append_ #[t,t] ty #[v,.slice x 0 c]).run P w=.ok v w:=by
 rcases Hh.2 with ⟨rfl,rfl⟩|⟨g,off,cap,cur,rfl,G7,hg,GM,ga,Gy,H8⟩
 ·cases x <;>simp[Builtin.append_,run_underlying ht,sizeOf,typeInfo,hi,Builtin.lenOf,Builtin.firstCells,loadCells,loadCellsFrom]
 ·cases x <;>simp[Builtin.append_,run_underlying ht,sizeOf,typeInfo,hi,Builtin.lenOf,Builtin.firstCells,GM,storeCells,loadCells,loadCellsFrom]
theorem zDk{ops:Array Oper}{rest:List Oper}{o:Oper}{a:Act}{Q:Exit→Act→World→Prop}(pg:o.guard=none)(s x:Operand)(t:TypeId)
  (ho:o.op=.call { callee:=.builtin .append,args:=#[s,x],argTypes:=#[t,t] })
  (base:Nat) (e:TypeId) (i:TypeInfo) (size:Nat) (ht:P.underlying t=some (.slice e)) (hi:P.info? e=some i)
  (v:Value) (n:Nat) (xs:List Value) (hs:a.eval s=v) (Hh:OwnM w base e size v n xs)
  (ad:Option Addr) (c:Nat) (hx:a.eval x=.slice ad 0 c)
  (h:wpList P ops Q rest (a.put o.dst v) w):wpList P ops Q (o::rest) a w:=by
 refine wpList_plain pg fun _ hK=>?_
 have hr:=zER (P:=P) w base t o.type e i size ht hi v n xs Hh ad c;unfold Oper.wp execOp;simp only[ho,resolve,invoke,builtin,Sem.run_bind,Sem.run_pure,Result.andThen_ok,List.map_toArray,jK,List.map_nil,hs,hx,hr];exact hK _ _ h
end
end tap
namespace flr
open Go.ChangeShapes Go.WideShapes Go.ChangeAt Go.RowKit Go.Deep
open ord (O)
def cmL(c:Cm):List Value:=[.int .i64 c.what,.int .i64 c.o.id,.int .i64 c.o.who,.int .i64 c.o.side,.int .i64 c.o.kind,.int .i64 c.o.price,.int .i64 c.o.qty,.int .i64 c.o.shw,.int .i64 c.o.stop,.int .i64 c.who,.int .i64 c.n]
instance:Inhabited Cm:=⟨⟨0,⟨0,0,0,0,0,0,0,0⟩,0,0⟩⟩
def CLies(w:World)(b o:Nat)(zs:List Cm):Prop:=∀j,j<zs.length→(∀i v,(cmL zs[j]!)[i]?=some v→w.cell? ⟨b,o+j*11+i,none⟩=some v)∧(Lit.int .i64 (zs[j]!).o.id).wf=true
def CL(w:World)(v:Value)(zs:List Cm):Prop:=
 (v=.slice none 0 0∧zs=[])∨∃b o c,v=.slice (some ⟨b,o,none⟩) zs.length c∧zs.length≤c∧c≤9223372036854775807∧b<w.heap.size∧CLies w b o zs
theorem CL.below{w w' : World}{v:Value}{zs:List Cm}(h:CL w v zs)(hB:Bw w w'):CL w' v zs:=by
 rcases h with h|⟨b,o,c,h1,h2,h3,h4,h5⟩
 ·exact .inl h
 ·exact .inr ⟨b,o,c,h1,h2,h3,jC h4 hB.size,fun j hj=>⟨fun i v hv=>(hB.cell (p:=⟨b,o+j*11+i,none⟩) h4).trans ((h5 j hj).1 i v hv),(h5 j hj).2⟩⟩
theorem CL.form{w:World}{v:Value}{zs:List Cm}(h:CL w v zs):∃q c,v=.slice q zs.length c∧zs.length≤9223372036854775807:=by
 rcases h with ⟨h1,h2⟩|⟨b,o,c,h1,h2,h3,h4,h5⟩
 ·subst h2;exact⟨none,0,h1,by simp⟩
 ·exact⟨some ⟨b,o,none⟩,c,h1,by omega⟩
theorem CL.at{w:World}{q:Option Addr}{n c:Nat}{zs:List Cm}(h:CL w (.slice q n c) zs){k:Nat}(hk:k<zs.length):∃g off,q=some ⟨g,off,none⟩∧g<w.heap.size∧(∀i v,(cmL zs[k]!)[i]?=some v→w.cell? ⟨g,off+k*11+i,none⟩=some v)∧(Lit.int .i64 (zs[k]!).o.id).wf=true:=by
 rcases h with ⟨h1,h2⟩|⟨b,o,c,h1,h2,h3,h4,h5⟩
 ·subst h2;simp at hk
 ·cases h1;exact⟨b,o,rfl,h4,(h5 k hk).1,(h5 k hk).2⟩
theorem list4{α:Type}{l:List α}(h:l.length=4):∃c0 c1 c2 c3,l=[c0,c1,c2,c3]:=by
 match l,h with
 | [c0,c1,c2,c3],_=>exact⟨c0,c1,c2,c3,rfl⟩
theorem list8{α:Type}{l:List α}(h:l.length=8):∃c0 c1 c2 c3 c4 c5 c6 c7,l=[c0,c1,c2,c3,c4,c5,c6,c7]:=by
 match l,h with
 | [c0,c1,c2,c3,c4,c5,c6,c7],_=>exact⟨c0,c1,c2,c3,c4,c5,c6,c7,rfl⟩
theorem list11{α:Type}{l:List α}(h:l.length=11):∃c0 c1 c2 c3 c4 c5 c6 c7 c8 c9 c10,l=[c0,c1,c2,c3,c4,c5,c6,c7,c8,c9,c10]:=by
 match l,h with
 | [c0,c1,c2,c3,c4,c5,c6,c7,c8,c9,c10],_=>exact⟨c0,c1,c2,c3,c4,c5,c6,c7,c8,c9,c10,rfl⟩
theorem getC{α:Type}[Inhabited α](l:List α)(j:Nat)(h:j<l.length):l[j]! = l[j]:=by simp[h]
theorem cellsC:prog.cellsOf 42=11:=by kernel_rfl
theorem cellsO:prog.cellsOf 40=8:=by kernel_rfl
theorem zCz:prog.cellsOf 3=1:=by kernel_rfl
section
variable {H:Type}{enc:TypeId × Value→H}{w:World}{base:Nat}{sp:Nat→Bool}{held:Bool}
theorem zDJ{n:Nat}{cs:List Value}{x:DataW H × List MemPlace}(h:DataW.trod enc prog w base sp held n 40 cs=some x)(hl:cs.length=8) :
  ∃r:O,cs=wak.oL r∧(Lit.int .i64 r.id).wf=true:=by
 obtain⟨c0,c1,c2,c3,c4,c5,c6,c7,rfl⟩:=list8 hl;obtain⟨xs,n,_,hx,_,Hi,hF⟩:=DataW.trod_struct underlying40 h;obtain⟨y0,y1,y2,y3,y4,y5,y6,y7,rfl⟩:=list8 Hi;have h0:DataW.trod enc prog w base sp held n 3 (([c0,c1,c2,c3,c4,c5,c6,c7].drop 0).take (prog.cellsOf 3))=some y0:=hF 0 _ rfl;rw[zCz] at h0;obtain⟨a0,e0,_,f0⟩:=DataW.trod_int underlying3 h0;have h1:DataW.trod enc prog w base sp held n 3 (([c0,c1,c2,c3,c4,c5,c6,c7].drop 1).take (prog.cellsOf 3))=some y1:=hF 1 _ rfl;rw[zCz] at h1;obtain⟨a1,e1,_,f1⟩:=DataW.trod_int underlying3 h1;have h2:DataW.trod enc prog w base sp held n 3 (([c0,c1,c2,c3,c4,c5,c6,c7].drop 2).take (prog.cellsOf 3))=some y2:=hF 2 _ rfl;rw[zCz] at h2;obtain⟨a2,e2,_,f2⟩:=DataW.trod_int underlying3 h2;have h3:DataW.trod enc prog w base sp held n 3 (([c0,c1,c2,c3,c4,c5,c6,c7].drop 3).take (prog.cellsOf 3))=some y3:=hF 3 _ rfl;rw[zCz] at h3
 obtain⟨a3,e3,_,f3⟩:=DataW.trod_int underlying3 h3;have h4:DataW.trod enc prog w base sp held n 3 (([c0,c1,c2,c3,c4,c5,c6,c7].drop 4).take (prog.cellsOf 3))=some y4:=hF 4 _ rfl;rw[zCz] at h4;obtain⟨a4,e4,_,f4⟩:=DataW.trod_int underlying3 h4;have h5:DataW.trod enc prog w base sp held n 3 (([c0,c1,c2,c3,c4,c5,c6,c7].drop 5).take (prog.cellsOf 3))=some y5:=hF 5 _ rfl;rw[zCz] at h5;obtain⟨a5,e5,_,f5⟩:=DataW.trod_int underlying3 h5;have h6:DataW.trod enc prog w base sp held n 3 (([c0,c1,c2,c3,c4,c5,c6,c7].drop 6).take (prog.cellsOf 3))=some y6:=hF 6 _ rfl;rw[zCz] at h6;obtain⟨a6,e6,_,f6⟩:=DataW.trod_int underlying3 h6;have h7:DataW.trod enc prog w base sp held n 3 (([c0,c1,c2,c3,c4,c5,c6,c7].drop 7).take (prog.cellsOf 3))=some y7:=hF 7 _ rfl;rw[zCz] at h7;obtain⟨a7,e7,_,f7⟩:=DataW.trod_int underlying3 h7;simp at e0 e1 e2 e3 e4 e5 e6 e7;subst e0 e1 e2 e3 e4 e5 e6 e7
 exact⟨⟨a0,a1,a2,a3,a4,a5,a6,a7⟩,rfl,f0⟩
theorem zDl{n:Nat}{cs:List Value}{x:DataW H × List MemPlace}(h:DataW.trod enc prog w base sp held n 42 cs=some x)(hl:cs.length=11) :
  ∃r:Cm,cs=cmL r∧(Lit.int .i64 r.o.id).wf=true:=by
 obtain⟨c0,c1,c2,c3,c4,c5,c6,c7,c8,c9,c10,rfl⟩:=list11 hl;obtain⟨xs,n,_,hx,_,Hi,hF⟩:=DataW.trod_struct underlying42 h;obtain⟨y0,y1,y2,y3,rfl⟩:=list4 Hi;have h0:DataW.trod enc prog w base sp held n 3 (([c0,c1,c2,c3,c4,c5,c6,c7,c8,c9,c10].drop 0).take (prog.cellsOf 3))=some y0:=hF 0 _ rfl;rw[zCz] at h0;obtain⟨a0,e0,_,f0⟩:=DataW.trod_int underlying3 h0;have h2:DataW.trod enc prog w base sp held n 3 (([c0,c1,c2,c3,c4,c5,c6,c7,c8,c9,c10].drop 9).take (prog.cellsOf 3))=some y2:=hF 2 _ rfl;rw[zCz] at h2;obtain⟨a2,e2,_,f2⟩:=DataW.trod_int underlying3 h2;have h3:DataW.trod enc prog w base sp held n 3 (([c0,c1,c2,c3,c4,c5,c6,c7,c8,c9,c10].drop 10).take (prog.cellsOf 3))=some y3:=hF 3 _ rfl;rw[zCz] at h3;obtain⟨a3,e3,_,f3⟩:=DataW.trod_int underlying3 h3;have h1:DataW.trod enc prog w base sp held n 40 (([c0,c1,c2,c3,c4,c5,c6,c7,c8,c9,c10].drop 1).take (prog.cellsOf 40))=some y1:=hF 1 _ rfl
 rw[cellsO] at h1;obtain⟨r,e1,f1⟩:=zDJ h1 rfl;obtain⟨b0,b1,b2,b3,b4,b5,b6,b7⟩:=r;simp at e0 e2 e3;have e1' : [c1,c2,c3,c4,c5,c6,c7,c8]=[.int .i64 b0,.int .i64 b1,.int .i64 b2,.int .i64 b3,.int .i64 b4,.int .i64 b5,.int .i64 b6,.int .i64 b7]:=e1;simp only[List.cons.injEq,and_true] at e1';obtain⟨rfl,rfl,rfl,rfl,rfl,rfl,rfl,rfl⟩:=e1';subst e0 e2 e3;exact⟨⟨a0,⟨b0,b1,b2,b3,b4,b5,b6,b7⟩,a2,a3⟩,rfl,f1⟩
theorem zDD{r:Reach}{b0:Nat}{t e:TypeId}{v:Value}(ht:prog.underlying t=some (.slice e))(hv:Value.okWide prog w r b0 t v) :
  v=.slice none 0 0∨∃b o len cap,v=.slice (some ⟨b,o,none⟩) len cap∧len≤cap∧cap≤9223372036854775807∧b<w.heap.size:=by
 obtain⟨a,len,cap,rfl⟩:=okWide_slice ht hv;simp only[Value.okWide,ht,Cell.okWide] at hv;cases a with
 | none=>
  left;cases len with
  | zero=>
   cases cap with
   | zero=>rfl
   | succ c=>simp[Cell.ok,ht] at hv
  | succ l=>simp[Cell.ok,ht] at hv
 | some a=>
  right;simp only[Cell.ok,ht] at hv;obtain⟨h1,h2,_,h4,row,cells,h5,_⟩:=hv;obtain⟨b,o,s⟩:=a;simp only at h4 h5;subst h4;refine⟨b,o,len,cap,rfl,h1,?_,?_⟩
  ·have:IntKind.i64.max=9223372036854775807:=rfl;rw[this] at h2;omega
  ·unfold World.shape? at h5;split at h5
   ·rename_i hh
    exact(gzE.1 hh).1
   ·cases h5
theorem zGs{r:Reach}{b0:Nat}{v:Value}{d:DataW H}{ps:List MemPlace}(hv:Value.okWide prog w r b0 22 v)(h:DataW.Trod enc prog w base sp held 22 v d ps) :
  ∃zs:List Cm,CL w v zs:=by
 rcases zDD underlying22 hv with rfl|⟨b,o,len,cap,rfl,hl,hm,hb⟩
 ·exact⟨[],.inl ⟨rfl,rfl⟩⟩
 obtain⟨fuel,hf⟩:=h;rcases open_slice underlying22 hf with ⟨Gy,_⟩|⟨a,len',cap',m,n,D,Pl,Gy,_,B9,_,mi,_,hx⟩
 ·simp[Value.cells] at Gy
 simp[Value.cells] at Gy;obtain⟨rfl,rfl,rfl⟩:=Gy;have hlm:len≤m:=by rw[mi];split <;>omega
 obtain⟨f,hf2⟩:=choose_lt (α:=Cm) (n:=len) (p:=fun i r=>(∀k v,(cmL r)[k]?=some v→w.cell? ⟨b,o+i*11+k,none⟩=some v)∧(Lit.int .i64 r.o.id).wf=true) (fun i hi=>by
  obtain⟨cs',h1,h2⟩:=hx i (by omega)
  rw[cellsC] at h1;obtain⟨_,Hi,gu⟩:=World.cells?_some h1;obtain⟨r,rfl,GS⟩:=zDl h2 Hi;refine⟨r,fun k v hk=>?_,GS⟩
  have hk6:k<11:=(List.getElem?_eq_some_iff.1 hk).1;have:=gu k hk6;rw[hk,Addr.add_lit,Addr.add_lit] at this;exact this)
 refine⟨(List.range len).map f,.inr ⟨b,o,cap,by simp,by simpa using hl,hm,hb,?_⟩⟩
 intro j hj;have CR : j<len:=by simpa using hj
 rw[getC _ _ hj];simp only[List.getElem_map,List.getElem_range];exact hf2 j CR
end
theorem zSm:laidOutB prog=true:=by kernel_rfl
end flr
namespace bok
open Go.RowKit spn que sid
theorem zKK(q1 q2:Option Addr)(n1 n2 c1 c2:Nat)(bs ss:List L)(w:World)(h1:LS w (.slice q1 n1 c1) bs)(h2:LS w (.slice q2 n2 c2) ss)(h0:zAc bs ss=0) :
  Calls prog 10 #[.agg #[.slice q1 n1 c1,.slice q2 n2 c2]] w fun e w'=>e=.returned (.tuple #[.int .i64 ((allR bs++allR ss).length:Nat),.nilIface])∧Bw w w':=by
 have gN:=fun W(hW:Bw w W)=>wAf q1 q2 n1 n2 c1 c2 bs ss W (h1.below hW) (h2.below hW)
 rw[h0,wAa] at gN;obtain⟨e1,e2,-⟩:=zAe h0;have uj:Hid (∀W,Bw w W→Calls prog 30 #[.agg #[.slice q1 n1 c1,.slice q2 n2 c2]] W fun e w'=>∃v,e=.returned v∧OwnQ w' W.heap.size v (allR bs++allR ss)∧Bw W w'):=fun W hW=>zGL q1 q2 n1 n2 c1 c2 bs ss W (h1.below hW) (h2.below hW) (zAY e1) (zAY e2) (zAd e1).2.2.1 (zAd e2).2.2.1
 generalize allR bs++allR ss=AR at *;obtain⟨V,hV⟩:∃V,V=w.alloc (.cells #[.slice q1 n1 c1,.slice q2 n2 c2] 50):=⟨_,rfl⟩;have HB:Hid (Bw w V):=by rw[hV];exact(bzR _ _).alloc (nzR _) _
 have v0:V.cell? ⟨w.heap.size,0,none⟩=some (.slice q1 n1 c1):=by rw[hV];simp[go_sem]
 have v1:V.cell? ⟨w.heap.size,1,none⟩=some (.slice q2 n2 c2):=by rw[hV];simp[go_sem]
 have gp:w.heap.size<V.heap.size:=by rw[hV];simp
 clear h1 h2 h0 e1 e2;go_enter func10,ntmps10;go_wp2_with fail;rw[←hV];refine(gN V HB.out).mono ?_;rintro e w1⟨rfl,b1⟩;have He:Hid (Bw w w1):=HB.out.trans (b1.mono HB.out.size);have x0:=zAa b1 v0;have x1:=zAa b1 v1;have Hm:w.heap.size<w1.heap.size:=jC gp b1.size;clear b1 gN v0 v1;go_wp2_with fail;refine(uj.out w1 He.out).mono ?_;rintro e w4⟨v,rfl,hO,b4⟩;have Gd:Hid (Bw w w4):=He.out.trans (b4.mono He.out.size);obtain⟨q4,c4,rfl⟩:=OwnM.form hO;clear b4 uj hO x0 x1;go_wp2_with fail
 go_ret2
 exact⟨rfl,Gd.out⟩
end bok
namespace tap
open Go.RowKit flr
open que (R rchk Kept kept bal)
open sid (L DL LS allR)
open mee (T tV)
open bok (zAc zAf)
open spn (zAa zAg errV wAa wAb)
open wak (OwnM wAd)
theorem zIu(m cut:Int)(sq:Option Addr)(n sc:Nat)(w:World)(hm:¬(0≤m∧m≤3)) :
  Calls prog 3 #[.int .i64 m,.slice sq n sc,.int .i64 cut] w fun e w'=>e=.returned (.bool true)∧Bw w w':=by
 have mJ:=hidT (zHJ w);have mP:=hidT (fun W=>zSd m hm W)
 have hq:=neq3 3 3 100;have uL:=guard3;by_cases h0:m<0;all_goals
  have h3:m<0∨3<m:=by omega
  try have h3b:3<m:=by omega
  clear hm h3;unfold zNJ at mJ;go_enter func3,ntmps3;go_wp2_with fail;refine mJ.out.mono ?_;rintro e w1⟨q,c,g,off,rfl,rfl,m8,z0,z1,z2,Ha⟩;have He:=hidT Ha;clear Ha mJ;go_wp2_with fail;refine(mP.out w1).mono ?_;rintro e w2⟨rfl,Hc⟩;have Hg:=hidT (He.out.trans (Hc.mono He.out.size));clear Hc;go_wp2_with fail;go_ret;exact⟨by simp[*],Hg.out⟩
theorem five2(W:World)(B:Nat)(x0 x1 x2 x3 x4:Value)(h:(W.cell? ⟨B,2,none⟩).isSome=true) :
  (((((W.setCell ⟨B,0,none⟩ x0).setCell ⟨B,1,none⟩ x1).setCell ⟨B,2,none⟩ x2).setCell ⟨B,3,none⟩ x3).setCell ⟨B,4,none⟩ x4).cell? ⟨B,2,none⟩=some x2:=by
 rw[World.cell?_setCell_other _ _ _ _ (by simp),World.cell?_setCell_other _ _ _ _ (by simp),World.cell?_setCell_same' _ _ _ (by rw[World.cell?_setCell_other _ _ _ _ (by simp),World.cell?_setCell_other _ _ _ _ (by simp)];exact h)]
theorem five3(W:World)(B:Nat)(x0 x1 x2 x3 x4:Value)(h:(W.cell? ⟨B,3,none⟩).isSome=true) :
  (((((W.setCell ⟨B,0,none⟩ x0).setCell ⟨B,1,none⟩ x1).setCell ⟨B,2,none⟩ x2).setCell ⟨B,3,none⟩ x3).setCell ⟨B,4,none⟩ x4).cell? ⟨B,3,none⟩=some x3:=by
 rw[World.cell?_setCell_other _ _ _ _ (by simp),World.cell?_setCell_same' _ _ _ (by rw[World.cell?_setCell_other _ _ _ _ (by simp),World.cell?_setCell_other _ _ _ _ (by simp),World.cell?_setCell_other _ _ _ _ (by simp)];exact h)]
theorem zNK{l:List Ev}(h:l.length≤400)(hb:∀e∈l,EvB e):volE l=sumQ (trs l)∧cntE l=((trs l).length:Int)∧tchk l=0∧0≤sumQ (trs l)∧sumQ (trs l)≤4000000∧(trs l).length≤400:=by
 have hz:=zNG h hb;have h1:=zDB (trs l) (zJr (fun e he=>zNE (hb e he)))
 have h2:=zGn l;refine⟨if_pos hz,if_pos hz,hz,h1.1,?_,by omega⟩
 have:=h1.2;omega
theorem zHK(m cut:Int)(sq:Option Addr)(n sc:Nat)(zs:List Cm)(w:World)(hS:CL w (.slice sq n sc) zs)(hL:told.Laid w)(h0:0≤m)(h3:m≤3) :
  Calls prog 3 #[.int .i64 m,.slice sq n sc,.int .i64 cut] w fun e w'=>e=.returned (.bool true)∧Bw w w':=by
 obtain⟨i0,Gg,gH,gw,gD⟩:=infoE';have HI:=hidT Gg;have mJ:=hidT (zHJ w);have HNG:=hidT (fun W(hW:Bw w W)=>zQf (w:=w) m h0 h3 hW)
 have hq:=neq3 3 3 100;have uL:=guard3;have HS:=hidT hS;have HL:=hidT hL;obtain⟨sq',sc',Mq,Hi⟩:=hS.form;have hn:n=zs.length:=by cases Mq;rfl
 have HN:=hidT hn;have hnb:(n:Int)≤9223372036854775807:=by omega
 clear hS hL Mq Hi hn h0 h3 Gg;unfold zNJ at mJ;go_enter func3,ntmps3;go_wp2_with fail;refine mJ.out.mono ?_;rintro e w1⟨q,c,g,off,rfl,rfl,m8,z0,z1,z2,Ha⟩;have He:=hidT Ha;clear Ha mJ;go_wp2_with fail;refine(HNG.out w1 He.out).mono ?_;rintro e w2⟨F,f0,rfl,hT⟩;have HT:=hidT hT;clear hT HNG z0 z1 z2 m8 He hq;go_wp2_with fail;go_loopg [11,12,13,14] 30 (fun gg s11 s12 _ _ wr=>∃ (kk:Nat) (q' : Option Addr) (c' mm:Nat) (all:List Ev) (f:FS),kk≤n∧kk≤30∧30 - kk≤gg∧s11=.slice q' mm c'∧s12=.int .i64 kk∧Aside (mm=all.length∧TapL w wr F (.slice q' mm c') all f kk))
 case atStart=>exact⟨0,none,0,0,[],f0,jL _,by omega,by omega,rfl,rfl,rfl,HT.out⟩
 case round=>
  clear HT;obtain⟨kk,q',c',mm,all,f,gh,CS,hg,rfl,rfl,HA⟩:=hrel;by_cases Hj:kk<n∧kk<30
  ·as_aux_lemma=>
   have h1z:(kk:Int)<(n:Int):=by omega
   have h2z:(kk:Int)<30:=by omega
   obtain⟨g,off,rfl,Uq,hx,GS⟩:=HS.out.at (k:=kk) (by rw[←HN.out];exact Hj.1)
   rcases ga:zs[kk]! with ⟨what,⟨a1,a2,a3,a4,a5,a6,a7,a8⟩,who,num⟩
   rw[ga] at hx GS;have hb:=HA.out.2.fl.bel;have x0:=(hb.cell (p:=⟨g,off+kk*11+0,none⟩) Uq).trans (hx 0 _ rfl);have x1:=(hb.cell (p:=⟨g,off+kk*11+1,none⟩) Uq).trans (hx 1 _ rfl);have x2:=(hb.cell (p:=⟨g,off+kk*11+2,none⟩) Uq).trans (hx 2 _ rfl);have x3:=(hb.cell (p:=⟨g,off+kk*11+3,none⟩) Uq).trans (hx 3 _ rfl);have x4:=(hb.cell (p:=⟨g,off+kk*11+4,none⟩) Uq).trans (hx 4 _ rfl);have x5:=(hb.cell (p:=⟨g,off+kk*11+5,none⟩) Uq).trans (hx 5 _ rfl);have x6:=(hb.cell (p:=⟨g,off+kk*11+6,none⟩) Uq).trans (hx 6 _ rfl);have x7:=(hb.cell (p:=⟨g,off+kk*11+7,none⟩) Uq).trans (hx 7 _ rfl);have x8:=(hb.cell (p:=⟨g,off+kk*11+8,none⟩) Uq).trans (hx 8 _ rfl);have x9:=(hb.cell (p:=⟨g,off+kk*11+9,none⟩) Uq).trans (hx 9 _ rfl);have x10:=(hb.cell (p:=⟨g,off+kk*11+10,none⟩) Uq).trans (hx 10 _ rfl);simp only[Nat.add_zero] at x0;have ba:¬((kk:Int)<0):=by omega
   have ei:wrap64 ((kk:Int)+1)=((kk+1:Nat):Int):=by unfold wrap64;omega
   have HK:Hid (kk<n∧kk<30∧30 - kk≤gk):=⟨Hj.1,Hj.2,hg⟩;have MA:=hidT (do_tf what a1 a2 a3 a4 a5 a6 a7 a8 who num HA.out.2 GS);have UR:=hidT HA.out.1;clear ga hx GS Hj gh CS hg hb HA;go_wp2_with fail;refine MA.out.mono ?_;rintro e w6 Mu;clear x0 x1 x2 x3 x4 x5 x6 x7 x8 x9 x10 MA Uq;rcases Mu with ⟨qv,evs,cv,fg,rfl,ho,hM⟩|⟨j,fg,rfl,hM⟩
   ·have HM:=hidT hM;by_cases he:evs=[]
    ·subst he;have Cu:=hidT (hM.none rfl);have ul:=hM.ow;rw[←UR.out] at ul;simp only[List.length_nil];have Ge:=hidT ul;clear hM HM ho ul;go_wp2_with (at_builtin;(refine zDk _ rfl _ _ 32 rfl w.heap.size 31 i0 10 underlying32 HI.out (.slice q' mm c') mm (zAH all) rfl Ge.out qv cv rfl ?_))
     clear Ge;go_wp2_with fail;go_roundg (30 - (kk+1))
     case measure=>have:=HK.out;clear ei;omega
     case rel=>exact⟨kk+1,q',c',mm,all,fg,HK.out.1,HK.out.2.1,nzR _,rfl,by first|go_num|exact congrArg (Value.int .i64) ei,UR.out,Cu.out⟩
    ·obtain⟨g2,off2,hqv,Pf⟩:∃g2 off2,qv=some ⟨g2,off2,none⟩∧∀j u,(zAH evs)[j]?=some u→w6.cell? ((⟨g2,off2,none⟩:Addr).add j)=some u:=by
      rcases ho.2 with ⟨hv,hl⟩|⟨g2,off2,cap2,cur2,hv,-,-,-⟩
      ·exact absurd (List.eq_nil_of_length_eq_zero hl) he
      ·cases hv;refine⟨g2,off2,rfl,fun j u hu=>?_⟩
       rw[Addr.add_lit];exact(OwnM.cells ho).1 j u hu
     subst hqv;have dd:=hidT Pf;have ul:=hM.ow;rw[←UR.out] at ul;have Ge:=hidT ul;have mR:=hidT hM.fl.bel.size;have bx:=hidT hM.sm;obtain⟨ne,H7⟩:∃ne,evs.length=ne:=⟨_,rfl⟩;have uP:=hidT H7;have EP:(zAH evs).length=ne*10:=(by rw[zKL,H7]);have HNL:=hidT EP;simp only[H7];clear hM ho ul Pf he H7 EP;go_wp2_with (at_builtin;(refine wAd _ rfl _ _ 32 rfl w.heap.size 31 i0 zeroE 10 80 underlying32 HI.out gH gw gD rfl (.slice q' mm c') mm (zAH all) rfl Ge.out ⟨g2,off2,none⟩ ne cv (zAH evs) rfl HNL.out dd.out (zKJ evs) ?c3 ?c4 ?c5 ?_))
     case c3=>have h1:=UR.out;have h2:=bx.out;have h3:=HK.out;have h4:=uP.out;rw[jE] at h2;clear ei;unfold maxLen;omega
     case c4=>have h1:=UR.out;have h2:=bx.out;have h3:=HK.out;have h4:=uP.out;rw[jE] at h2;clear ei;omega
     case c5=>exact mR.out
     intro v' w' gA Hw Gk;obtain⟨q2,c2,gX⟩:=OwnM.form gA;subst gX;have U5:=hidT (HM.out.app (by rw[←UR.out,uP.out];exact gA) Hw)
     have Bv:Hid (mm+ne=(all++evs).length):=(by show _=_;rw[jE,←UR.out,uP.out]);clear gA Hw Gk Ge mR bx HM dd HNL uP;go_wp2_with fail;go_roundg (30 - (kk+1))
     case measure=>have:=HK.out;clear ei;omega
     case rel=>exact⟨kk+1,q2,c2,mm+ne,all++evs,fg,HK.out.1,HK.out.2.1,nzR _,rfl,by first|go_num|exact congrArg (Value.int .i64) ei,Bv.out,U5.out⟩
   ·have Cu:=hidT (hM.mono (Nat.le_succ kk));clear hM;go_wp2_with fail;go_roundg (30 - (kk+1))
    case measure=>have:=HK.out;clear ei;omega
    case rel=>exact⟨kk+1,q',c',mm,all,fg,HK.out.1,HK.out.2.1,nzR _,rfl,by first|go_num|exact congrArg (Value.int .i64) ei,UR.out,Cu.out⟩
  ·have Es:Hid (((kk:Int)<(n:Int)∧¬(kk:Int)<30)∨¬(kk:Int)<(n:Int)):=by
    by_cases h1:kk<n
    ·exact .inl ⟨by omega,by omega⟩
    ·exact .inr (by omega)
   clear Hj gh hg;have Dr:=hidT CS;clear CS;go_upto_region 9 with fail
   go_cut [75] from 68 to 75 (fun s75 wx=>s75=.bool false∧wx=wr)
   case first=>
    rcases Es.out with ⟨e1,e2⟩|e1
    ·go_wp2_with fail;go_meet
     case rel=>exact⟨rfl,rfl⟩
    ·go_wp2_with fail;go_meet
     case rel=>exact⟨rfl,rfl⟩
   case rest=>
   obtain⟨rfl,rfl⟩:=hcut;clear Es;generalize wc=W at *;have HP:=hidT HA.out.2;have UR:=hidT HA.out.1;clear HA;obtain⟨cc,gT⟩:∃cc,c'=cc:=⟨_,rfl⟩;subst gT;have Hh:=HP.out.ow;rw[←UR.out] at Hh;have PQ:Hid (EL W (.slice q' mm c') all):=zQA HP.out.ow;have hml:(mm:Int)≤9223372036854775807:=by have:=UR.out;have:=HP.out.sm;have:=Dr.out;omega
   by_cases h4:400<mm
   ·have Cq:(400:Int)<(mm:Int):=(by omega);have cy:tchk all=4:=(by unfold tchk;rw[if_pos (by rw[←UR.out];exact h4)]);have gG:=hidT (wAf _ all W PQ.out);rw[cy] at gG;have mG:=HP.out.fl.bel;have gI:=hidT mG;clear Hh cy mG;go_wp2_with fail;refine gG.out.mono ?_;rintro e w3⟨rfl,Hr⟩;have HU:=hidT (gI.out.trans (Hr.mono gI.out.size));have HER:=hidT (terr2 4 4 w3 (HL.out.below HU.out));clear Hr gG;go_wp2_with fail;refine HER.out.mono ?_;rintro e w4⟨rfl,Gj⟩;have Gd:=hidT (HU.out.trans (Gj.mono HU.out.size));clear Gj;go_wp2_with fail;go_ret;exact⟨rfl,Gd.out⟩
   have Cq:¬(400:Int)<(mm:Int):=by omega
   have h4m:all.length≤400:=by rw[←UR.out];omega
   have cy:=zNG h4m HP.out.eb;have C3:=zKF HP.out.eb;have Pj:=fok_of HP.out.eb;rw[C3] at Pj;have HFOK:=hidT Pj;have UW:=zQe HP.out.ef Pj;have Bb:=fun y hy=>zSe (y:=y) HP.out.ef Pj hy
   have EJ:=HP.out.la;have Hj:=zQd all all.length;rw[List.take_length] at Hj;rw[Hj] at EJ;have MD:=hidT EJ;have UF:=hidT (fun U(hU:Bw W U)=>zJs _ all U (PQ.out.below hU))
   have cV:=hidT (fun U(hU:Bw W U)=>wBb _ all U (PQ.out.below hU))
   rw[show zKw all=zBA (zBP all) from if_pos cy,C3,cy,wAa] at UF
   rw[show lasE all=lastP (trs all) from if_pos cy,cy,wAa] at cV
   obtain⟨RS,mC⟩:∃RS,zBA (sees (mEvs zM all))=RS:=⟨_,rfl⟩;rw[mC] at UF UW Bb;have BA:=hidT Bb;obtain⟨N,hN⟩:∃N,RS.length=N:=⟨_,rfl⟩;have PW:=hidT hN;have hN4:N≤60:=by
    rw[←hN,UW];exact(bok.zAe HP.out.ef.wf.book).2.2.2.2
   have DW:=hidT (UW.symm.trans hN);have pD:=hidT hN4;have bg:(N:Int)≤9223372036854775807:=by omega
   obtain⟨fv,uR⟩:=HP.out.fl.fm;have mu:=hidT (fun U(hU:Bw W U)=>uR.below hU)
   have mJ:=hidT (fun U(hU:Bw W U)=>flr.zND F f fv U (uR.below hU) HP.out.ef.wf.book)
   have mL:=hidT (fun U(hU:Bw W U)=>flr.wBb F f fv U (uR.below hU))
   have da:Hid (zAc f.bs f.ss=0):=HP.out.ef.wf.book;obtain⟨LP,hLP⟩:∃LP,lastP (trs all)=LP:=⟨_,rfl⟩;rw[hLP] at cV MD;rw[MD.out] at mL;have uO:=hidT HP.out.fl.bel;have HEB:=hidT HP.out.eb;clear Hh cy C3 Pj UW Bb EJ Hj mC hN hN4 uR hLP MD;go_wp2_with fail;refine(UF.out W (bzR _ _)).mono ?_;rintro e w3⟨x,rfl,bB,Hr⟩;obtain⟨xq,xc,rfl⟩:=OwnM.form bB;have B3:=hidT Hr;have O3:=hidT bB;clear Hr bB UF;go_wp2_with fail;refine(cV.out w3 B3.out).mono ?_;rintro e w4⟨rfl,Gj⟩;have B4:=hidT (B3.out.trans (Gj.mono B3.out.size));have O4:=hidT (OwnM.below O3.out Gj);clear Gj cV O3 B3;go_wp2_with fail;refine(mJ.out w4 B4.out).mono ?_;rintro e w5⟨q1,n1,c1,q2,n2,c2,rfl,hd1,Eq,ug⟩;have B5:=hidT (B4.out.trans (ug.mono B4.out.size));have O5:=hidT (OwnM.below O4.out ug);have de:=hidT (bok.zKK q1 q2 n1 n2 c1 c2 f.bs f.ss w5 hd1.ls Eq.ls da.out);rw[DW.out] at de
   clear ug O4 B4 hd1 Eq;go_wp2_with fail;refine de.out.mono ?_;rintro e w6⟨rfl,bJ⟩;have B6:=hidT (B5.out.trans (bJ.mono B5.out.size));have O6:=hidT (OwnM.below O5.out bJ);clear bJ O5 B5 de;have P6:Hid (Own3 w6 W.heap.size (.slice xq N xc) RS):=by show Own3 _ _ _ _;rw[←PW.out];exact O6.out
   clear O6;simp only[PW.out];go_wp2_with fail;refine(mL.out w6 B6.out).mono ?_;rintro e w7⟨rfl,rfl⟩;clear mL;go_wp2_with fail;go_loopg [22,23,24,25,26] N (fun gg s22 _ _ _ _ wr=>∃jj:Nat,jj≤N∧N - jj≤gg∧s22=.int .i64 jj∧Aside (Below w7.heap.size w7 wr))
   case atStart=>exact⟨0,jL _,by omega,rfl,bzR _ _⟩
   case round=>
    obtain⟨jj,Ex,Gb,rfl,BX⟩:=hrel;by_cases hlt2:jj<N
    ·as_aux_lemma=>
     have uh:(jj:Int)<(N:Int):=(by omega);have bU:¬((jj:Int)<0):=(by omega);have UM:jj<RS.length:=(by rw[PW.out];exact hlt2);obtain⟨gx,ox,rfl,-,hgx,Ep⟩:=Own3.at (OwnM.below P6.out BX.out) UM;have m9:RS[jj]!∈RS:=(by rw[getE _ _ UM];exact jT UM);obtain⟨s,r,i,k,hA,MY,go,H5,Gm,co⟩:=BA.out _ m9;obtain⟨x,hx⟩:∃x,RS[jj]! = x:=⟨_,rfl⟩;rw[hx] at Ep hA MY;obtain⟨x1,x2,x3⟩:=x;obtain⟨r1,r2,r3,r4,r5⟩:=r;simp only at hA MY go H5 Gm co;have y0:=Ep 0 _ rfl;have y1:=Ep 1 _ rfl;have y2:=Ep 2 _ rfl;simp only[Nat.add_zero] at y0;have Gh:=hidT (B6.out.trans (BX.out.mono B6.out.size));have dU:Hid (∀U,Bw wr U→Calls prog 11 #[.pointer (some ⟨F,0,none⟩)] U fun e w'=>∃q1 n1 c1 q2 n2 c2,e=.returned (.agg #[.slice q1 n1 c1,.slice q2 n2 c2])∧(∀W',Bw w' W'→LS W' (.slice q1 n1 c1) f.bs∧LS W' (.slice q2 n2 c2) f.ss)∧Kept wr U w'∧Bw w' w'):=fun U hU=>
      (mJ.out U (Gh.out.trans (hU.mono Gh.out.size))).mono (by
       rintro e w'⟨a1,a2,a3,a4,a5,a6,rfl,d1,d2,hb⟩;exact⟨a1,a2,a3,a4,a5,a6,rfl,fun W' hW=>⟨d1.ls.below hW,d2.ls.below hW⟩,kept hU hb,bzR _ _⟩)
     have Dm:Hid (∀ (a1:Option Addr) (a2 a3:Nat) (a4:Option Addr) (a5 a6:Nat) U,(LS U (.slice a1 a2 a3) f.bs∧LS U (.slice a4 a5 a6) f.ss)→Bw wr U→Calls prog 13 #[.agg #[.slice a1 a2 a3,.slice a4 a5 a6],.int .i64 x1] U fun e w'=>e=.returned (.tuple #[.int .i64 s,.int .i64 x3,.agg #[.int .i64 r1,.int .i64 r2,.int .i64 r3,.int .i64 r4,.int .i64 r5],.nilIface])∧Kept wr U w'):=fun a1 a2 a3 a4 a5 a6 U hls hU=>
      (swp.zBD a1 a4 a2 a5 a3 a6 f.bs f.ss x1 s x3 r1 r2 r3 r4 r5 i k U hls.1 hls.2 hA).mono (by
       rintro e w'⟨rfl,hb⟩;exact⟨rfl,kept hU hb⟩)
     have SO:Hid (∀U,Bw wr U→(Bw wr U∧U.cell? ⟨gx,ox+jj*3,none⟩=some (.int .i64 x1))):=fun U hU=>⟨hU,zAa hU y0⟩
     have HYY:Hid (∀U,Bw wr U→U.cell? ⟨gx,ox+jj*3+1,none⟩=some (.int .i64 x2)∧U.cell? ⟨gx,ox+jj*3+2,none⟩=some (.int .i64 x3)∧gx<U.heap.size):=fun U hU=>⟨zAa hU y1,zAa hU y2,jC hgx hU.size⟩
     have HJJ:Hid (jj<N∧N - jj≤gk):=⟨hlt2,Gb⟩;have HQQ:=hidT MY;have cD:wrap64 (r3+r4)=x2:=(by rw[←MY];unfold wrap64;omega);have ej:=zCy jj N hlt2 (by have:=pD.out;omega)
     clear hx Ep hA m9 hlt2 Ex Gb MY go H5 Gm co y1 y2;go_upto_region 25 with fail
     go_cut [23,24,25,26] from 143 to 156 (fun _ s24 s25 s26 wx=>s24=.int .i64 x3∧s26=.nilIface∧∃B,s25=.pointer (some ⟨B,0,none⟩)∧Below wr.heap.size wr wx∧wx.cell? ⟨B,2,none⟩=some (.int .i64 r3)∧wx.cell? ⟨B,3,none⟩=some (.int .i64 r4))
     case first=>
      go_region_held3 (fun U=>Below wr.heap.size wr U∧U.cell? ⟨gx,ox+jj*3,none⟩=some (.int .i64 x1))
       ((refine SO.out _ ?_;(with_reducible repeat' (first|assumption|refine bal ?_ _|refine Below.setCell ?_ ?_ _|refine Below.drew ?_|exact bzR _ _|exact nzR _|exact Below.size (by assumption)|refine jD ?_))))
       (first|(go_at_call 11;refine(dU.out _ ?_).mono ?_;(with_reducible repeat' (first|assumption|refine bal ?_ _|refine Below.setCell ?_ ?_ _|refine Below.drew ?_|exact bzR _ _|exact nzR _|exact Below.size (by assumption)|refine jD ?_));rintro x U1 ⟨a1,a2,a3,a4,a5,a6,rfl,hls,⟨Hp,Em,Et,MZ⟩,hbr⟩;(try simp only[World.size_alloc,World.size_drew] at MZ Em Et);(try have hq0:wr.heap.size<U1.heap.size:=by first|exact MZ _ (by with_reducible assumption)|exact MZ _ (by omega)))|(go_at_call 13;refine(Dm.out _ _ _ _ _ _ _ (hls _ ?_) ?_).mono ?_;(with_reducible repeat' (first|assumption|refine bal ?_ _|refine Below.setCell ?_ ?_ _|refine Below.drew ?_|exact bzR _ _|exact nzR _|exact Below.size (by assumption)|refine jD ?_));rintro x U2 ⟨rfl,⟨hbm,ga,hfm,cw⟩⟩;(try simp only[World.size_alloc] at cw ga hfm)))
      all_goals
       go_wp2_with fail;go_meet
       case rel=>
        refine⟨rfl,rfl,_,rfl,(by(with_reducible repeat' (first|assumption|refine bal ?_ _|refine Below.setCell ?_ ?_ _|refine Below.drew ?_|exact bzR _ _|exact nzR _|exact Below.size (by assumption)|refine jD ?_))),?_,?_⟩
        ·first|(rw[World.cell?_alloc_at _ _ _ _ rfl];rfl)|(with_reducible refine five2 _ _ _ _ _ _ _ ?_;(first|(rw[ga _ _ (by omega)];first|(rw[World.cell?_alloc_at _ _ _ _ rfl];rfl)|(simp[go_sem];done))|(rw[ga _ _ (by omega),Em _ _ (by omega)];first|(rw[World.cell?_alloc_at _ _ _ _ rfl];rfl)|(simp[go_sem];done))))
        ·first|(rw[World.cell?_alloc_at _ _ _ _ rfl];rfl)|(with_reducible refine five3 _ _ _ _ _ _ _ ?_;(first|(rw[ga _ _ (by omega)];first|(rw[World.cell?_alloc_at _ _ _ _ rfl];rfl)|(simp[go_sem];done))|(rw[ga _ _ (by omega),Em _ _ (by omega)];first|(rw[World.cell?_alloc_at _ _ _ _ rfl];rfl)|(simp[go_sem];done))))
     case rest=>
     obtain⟨rfl,rfl,B,rfl,hbc,b2,b3⟩:=hcut;have PL:=hidT (BX.out.trans (hbc.mono BX.out.size));obtain⟨y1,y2,hgx2⟩:=HYY.out _ hbc;have bK:=World.block_lt_of_cell? _ _ b2;clear SO dU Dm HYY y0 hgx BX Gh hbc;go_upto_region 26 with fail
     go_quiet (fail)
     go_wp2_with fail;go_roundg (N - (jj+1))
     case measure=>have:=HJJ.out;clear ej cD;omega
     case rel=>exact⟨jj+1,HJJ.out.1,nzR _,by first|go_num|exact congrArg (Value.int .i64) ej,zHI PL.out _⟩
    ·have uh:¬(jj:Int)<(N:Int):=(by omega);have HW:=hidT (B6.out.trans (BX.out.mono B6.out.size));clear hlt2 Ex Gb BX B6 P6 mJ mu BA PW DW da HFOK HP;have U6:=hidT (uO.out.trans (HW.out.mono uO.out.size));by_cases hc0:cut<0
     ·go_wp2_with fail;go_ret;exact⟨by simp[*],U6.out⟩
     by_cases Gv:(mm:Int)<cut
     ·go_wp2_with fail;go_ret;exact⟨by simp[*],U6.out⟩
     obtain⟨k,rfl⟩:∃k:Nat,cut=(k:Int):=⟨cut.toNat,by omega⟩
     have EE:k≤mm:=(by omega);have V1:=zNK (l:=all.take k) (by rw[jJ];omega) (fun e he=>HEB.out e (List.mem_of_mem_take he))
     have V2:=zNK (l:=all.drop k) (by rw[jQ];omega) (fun e he=>HEB.out e (List.mem_of_mem_drop he))
     have V3:=zNK (l:=all) h4m HEB.out;have PC:sumQ (trs (all.take k))+sumQ (trs (all.drop k))=sumQ (trs all):=(by rw[←zEL,←zCH,jR]);have En:(trs (all.take k)).length+(trs (all.drop k)).length=(trs all).length:=(by rw[←jE,←zCH,jR]);have M6:=hidT (fun(x:Value) U (hx:EL U x (all.take k))=>zDC x _ U hx)
     have GO:=hidT (fun(x:Value) U (hx:EL U x (all.drop k))=>zDC x _ U hx)
     have Ub:=hidT (fun U(hU:Bw W U)=>zDC _ all U (PQ.out.below hU))
     rw[V1.1,V1.2.1,V1.2.2.1,wAa] at M6;rw[V2.1,V2.2.1,V2.2.2.1,wAa] at GO;rw[V3.1,V3.2.1,V3.2.2.1,wAa] at Ub;obtain⟨S1,M9⟩:∃x,sumQ (trs (all.take k))=x:=⟨_,rfl⟩;obtain⟨S2,CD⟩:∃x,sumQ (trs (all.drop k))=x:=⟨_,rfl⟩;obtain⟨S3,Uy⟩:∃x,sumQ (trs all)=x:=⟨_,rfl⟩;obtain⟨T1,pd⟩:∃x,(trs (all.take k)).length=x:=⟨_,rfl⟩;obtain⟨T2,mW⟩:∃x,(trs (all.drop k)).length=x:=⟨_,rfl⟩;obtain⟨T3,CE⟩:∃x,(trs all).length=x:=⟨_,rfl⟩;rw[M9,pd] at M6 V1;rw[CD,mW] at GO V2;rw[Uy,CE] at Ub V3;rw[M9,CD,Uy] at PC;rw[pd,mW,CE] at En;have es:wrap64 (S1+S2)=S3:=(by rw[PC];unfold wrap64;omega);have et:wrap64 ((T1:Int)+(T2:Int))=(T3:Int):=(by unfold wrap64;omega);have ec:=el_cut (k:=k) (PQ.out.below HW.out) UR.out EE;have EC:=hidT ec;obtain⟨-,-,-,-,bW,hqn,hqs⟩:=ec;clear V1 V2 V3 PC En M9 CD Uy pd mW CE;have Ug:0≤(k:Int):=by omega
     have hkm2:(k:Int)≤(mm:Int):=(by omega);have EA:(k:Int)≤(c' : Int):=(by omega);have Dx:=hidT bW;have HKM:=hidT EE;clear UR h4m Dr HEB PQ bW;by_cases hz:c'=0
     ·subst hz;have hmz:mm=0:=(by have:=Dx.out;omega);have hkz:k=0:=(by have:=HKM.out;omega);subst hmz hkz;clear hqn hqs EE hkm2 EA Ug;go_wp2_with fail;refine(M6.out _ wr (EC.out.2.1 (by trivial))).mono ?_
      rintro e w8⟨rfl,BQ⟩;have G8:=hidT BQ;clear BQ;go_wp2_with fail;refine(GO.out _ w8 ((EC.out.2.2.1 (by trivial)).below G8.out)).mono ?_
      rintro e w9⟨rfl,mF⟩;have G9:=hidT (G8.out.trans (mF.mono G8.out.size));clear mF;go_wp2_with fail;refine(Ub.out w9 (HW.out.trans (G9.out.mono HW.out.size))).mono ?_;rintro e w10⟨rfl,mf⟩;have G10:=hidT (G9.out.trans (mf.mono G9.out.size));clear mf;go_wp2_with fail;go_ret;exact⟨by simp[*],U6.out.trans (G10.out.mono U6.out.size)⟩
     ·obtain⟨g7,o7,rfl⟩:∃g7 o7,q'=some ⟨g7,o7,none⟩:=by
       cases hq7:q' with
       | none=>exact absurd (hqn hq7) hz
       | some a=>
        obtain⟨g7,o7,rfl⟩:=hqs a hq7;exact⟨g7,o7,rfl⟩
      clear hqn hqs;by_cases Ez:k=c'
      ·subst Ez;have hmz:mm=k:=(by have:=Dx.out;omega);subst hmz;clear EE;go_wp2_with fail;refine(M6.out _ wr (EC.out.1)).mono ?_;rintro e w8⟨rfl,BQ⟩;have G8:=hidT BQ;clear BQ;go_wp2_with fail;refine(GO.out _ w8 ((EC.out.2.2.1 (by trivial)).below G8.out)).mono ?_
       rintro e w9⟨rfl,mF⟩;have G9:=hidT (G8.out.trans (mF.mono G8.out.size));clear mF;go_wp2_with fail;refine(Ub.out w9 (HW.out.trans (G9.out.mono HW.out.size))).mono ?_;rintro e w10⟨rfl,mf⟩;have G10:=hidT (G9.out.trans (mf.mono G9.out.size));clear mf;go_wp2_with fail;go_ret;exact⟨by simp[*],U6.out.trans (G10.out.mono U6.out.size)⟩
      ·have hkc3:¬c'=k:=fun e=>Ez e.symm
       clear EE;go_wp2_with fail;refine(M6.out _ wr (EC.out.1)).mono ?_;rintro e w8⟨rfl,BQ⟩;have G8:=hidT BQ;clear BQ;go_wp2_with fail;refine(GO.out _ w8 ((EC.out.2.2.2.1 _ _ rfl).below G8.out)).mono ?_;rintro e w9⟨rfl,mF⟩;have G9:=hidT (G8.out.trans (mF.mono G8.out.size));clear mF;go_wp2_with fail;refine(Ub.out w9 (HW.out.trans (G9.out.mono HW.out.size))).mono ?_;rintro e w10⟨rfl,mf⟩;have G10:=hidT (G9.out.trans (mf.mono G9.out.size));clear mf;go_wp2_with fail;go_ret;exact⟨by simp[*],U6.out.trans (G10.out.mono U6.out.size)⟩
end tap
namespace tapeFollows
open Go.RowKit flr
theorem walk{w:World}(m:Int)(v:Value)(zs:List Cm)(h:CL w v zs)(cut:Int)(B:World)(hI:told.Inv B w) :
  Calls prog 3 #[.int .i64 m,v,.int .i64 cut] w fun e w'=>e=.returned (.bool true)∧told.Inv B w':=by
 obtain⟨q,c,rfl,-⟩:=h.form;by_cases hm:0≤m∧m≤3
 ·exact(tap.zHK m cut q _ c zs w h hI.laid hm.1 hm.2).mono fun _ _ x=>⟨x.1,hI.on x.2⟩
 ·exact(tap.zIu m cut q _ c w hm).mono fun _ _ x=>⟨x.1,hI.on x.2⟩
end tapeFollows
end Go.Proofs.YtmhcghgfpfainaaGreatDoor
