/- The share's goroutines: what the two questions have in common (out of Sn9, Sna, Snd). -/
import Derived.Test.YtcgkgmmclfeohaaGreatDoorJ30
import Derived.Test.YtcgkgmmclfeohaaGreatDoorSrf0
import Derived.Test.YtcgkgmmclfeohaaGreatDoorJ31
set_option maxRecDepth 100000
set_option maxHeartbeats 4000000
namespace Go.Proofs.YtcgkgmmclfeohaaGreatDoor
open Go.Proofs.Tryz
open Go.Conc Go.ConcN Go.RowKit Go.Conc.Lib Go.ConcR.Gen Go.ConcN.Gen
def YW(b:Bk)(j:Nat):Nat:=G4 b.tg (D7 ((b.bs[j]?.map (·.has)).getD []))
def YX(b:Bk)(j:Nat):Nat:=G4 b.tg (D7 ((b.bs[j]?.map (·.nd)).getD []))
theorem Afh(x y:Value):Frame.enter prog 42 #[x,y] .normal=bP.at ⟨#[x,y,undef,undef,undef,undef,undef,undef,undef,undef,undef,undef,undef,undef,undef,undef,undef,undef,undef,undef,undef,undef,undef,undef,undef,undef,undef,undef,undef,undef,undef,undef,undef,undef,undef,undef,undef,undef],[]⟩ [.code FO]:=by
 simp[Frame.enter,Frame.at,func42,bP,base,FO,Tryz.f42]
theorem YY(bs:List Ba):(Z4 bs bs.length).map (·.1.nm)=I3 bs:=by
 rw[Z4,List.take_length,List.map_map];rfl
theorem UQ{bs:List Ba}{i:Nat}(h:i<bs.length):(Z4 bs bs.length)[i]?=some (bs[i],false):=by
 rw[Z4,List.take_length,B3,A0 h];rfl
theorem AG.imp{Q Q':World->Prop}{u:World}(h:AG Q u)(k:∀u,Q u->Q' u):AG Q' u:=let ⟨u0,h1,h2⟩:=h;⟨u0,k _ h1,h2⟩
theorem Ads(u:World)(base:Nat):G3 u base (Nz) []:=⟨by simp,.inl ⟨rfl,rfl⟩⟩
theorem Afi(tb:Nat)(tg:List BA)(ts:List Tr):N6 (λu=>Bo u tb tg ts):=λ_ _ _ h=>h
theorem Abd{w:World}{v:Value}{b:Bk}(h:K6 w v b):∀s∈I3 b.bs,s.size<=maxLen:=λs hs=>by
 obtain⟨tv,bv,rfl,-,a,c,rfl,-,hpos⟩:=h;obtain⟨x,hx,rfl⟩:=List.mem_map.1 hs;obtain⟨i,hi,rfl⟩:=B7 hx;obtain⟨b,o,rfl,hS,hb⟩:=hpos (by omega);exact (hS.at hi).batch
end Go.Proofs.YtcgkgmmclfeohaaGreatDoor
namespace Go.Proofs.YtcgkgmmclfeohaaGreatDoor
open Go.Proofs.Tryz
open Go.RowKit
theorem TV(b:Bk)(a1 a2:Option Addr)(c1 c2:Nat)(w:World):
  Calls prog 57 #[.agg #[Vz a1 b.tg.length c1,Vz a2 b.bs.length c2]] w λe w'=>e=.returned (.func (.func 69) #[] #[Pz w.heap.size 0])/\w'=w.alloc (Kz [Vz a1 b.tg.length c1,Vz a2 b.bs.length c2] 26):=by
 go_in;go_wp2;go_ret;exact⟨rfl,rfl⟩
noncomputable def Gz:Code:=Tryz.f15.body.getD .skip
noncomputable def UR:Code:=match Gz with | .seq r _=>r|_=>.skip
noncomputable def PR:Code:=match Gz with | .seq _ r=>r|_=>.skip
noncomputable def Ns:Array Oper:=match PR with | .seq (.region _ o _) _=>o|_=>#[]
noncomputable def YZ:Code:=match PR with | .seq _ r=>r|_=>.skip
def slA(bv:Value):Array Value:=#[bv,undef,undef,undef,undef,undef,undef,undef,undef,undef,undef]
def AtA(b:Bk)(R:World->Prop)(a:Act)(u:World):Prop :=
 ∃T bx a1 c1 a2 c2,a=⟨T,[]⟩/\T.size=11/\T[1]?=some (.pointer (some ⟨bx,0,none⟩))/\CB u bx [.slice a1 b.tg.length c1,.slice a2 b.bs.length c2]/\K6 u (.agg #[.slice a1 b.tg.length c1,.slice a2 b.bs.length c2]) b/\R u
theorem Afj(b:Bk)(bv:Value)(w:World)(h:K6 w bv b){R:World->Prop}(HR:Hid (∀u,Up w u->R u)):
  BG prog [UR] (λe a u=>e=.normal/\AtA b R a u) ⟨slA bv,[]⟩ w:=by
 obtain⟨a1,c1,a2,c2,rfl,h1,h2⟩:=h.parts;clear h1 h2;simp only[UR,slA,Gz,Tryz.f15,Option.getD_some];obtain⟨W1,a3,kA,a0,a4⟩:=cbE1 w [Vz a1 b.tg.length c1,Vz a2 b.bs.length c2] 26;apply Al;intro K hK
 go_wp2_with fail;try rw[a3]
 exact⟨rfl,_,w.heap.size,a1,c1,a2,c2,rfl,rfl,rfl,kA,h.up a0,HR.out _ a0⟩
noncomputable def BT:Code:=Tryz.f40.body.getD .skip
noncomputable def KL:Code:=match BT with | .seq r _=>r|_=>.skip
noncomputable def Kd:Code:=match BT with | .seq _ (.seq r _)=>r|_=>.skip
noncomputable def Nt:Code:=match BT with | .seq _ (.seq _ (.seq (.seq r _) _))=>r|_=>.skip
noncomputable def FE:Code:=match BT with | .seq _ (.seq _ (.seq (.seq _ r) _))=>r|_=>.skip
noncomputable def KM:Code:=match BT with | .seq _ (.seq _ (.seq _ r))=>r|_=>.skip
def US(bv:Value):Array Value:=#[bv,undef,undef,undef,undef,undef,undef,undef,undef,undef,undef,undef,undef,undef,undef,undef,undef,undef]
def AtO(b:Bk)(lo:Nat)(R:World->Prop)(a:Act)(u:World):Prop :=
 ∃T bx p2 p3 q a1 c1 a2 c2 x2 x3,a=⟨T,[]⟩/\T.size=18/\T[1]?=some (.pointer (some ⟨bx,0,none⟩))/\T[2]?=some (.pointer (some ⟨p2,0,none⟩))/\T[3]?=some (.pointer (some ⟨p3,0,none⟩))/\T[9]?=some (.func (.func 69) #[] #[.pointer (some ⟨q,0,none⟩)])/\
  CB u bx [.slice a1 b.tg.length c1,.slice a2 b.bs.length c2]/\CB u p2 [x2]/\CB u p3 [x3]/\CB u q [.slice a1 b.tg.length c1,.slice a2 b.bs.length c2]/\K6 u (.agg #[.slice a1 b.tg.length c1,.slice a2 b.bs.length c2]) b/\p2≠p3/\bx≠p2/\bx≠p3/\lo<=p2/\lo<=p3/\R u
theorem Ah8(b:Bk)(bv:Value)(w:World)(h:K6 w bv b)(hbk:J6 b=true){lo:Nat}(hlo:lo<=w.heap.size){R:World->Prop}(HR:Hid (∀u,Up w u->R u)):
  BG prog [KL,Kd,Nt] (λe a u=>e=.normal/\AtO b lo R a u) ⟨US bv,[]⟩ w:=by
 obtain⟨a1,c1,a2,c2,rfl,h1,h2⟩:=h.parts;clear h1 h2;simp only[KL,Kd,Nt,US,BT,Tryz.f40,Option.getD_some];obtain⟨W1,a5,kA,k2,k3,a4,b1⟩:=cbE3 w [Vz a1 b.tg.length c1,Vz a2 b.bs.length c2] 26 [Nz] 23 [.bool false] 4;apply Al;intro K hK
 go_wp2_with fail;try clear hK
 try clear K
 try rw[a5]
 clear a5;have hk:=h.up a4;obtain⟨e0,e1⟩:=kA.c2';clear h;apply Al;intro K hK
 go_wp2_with fail;refine (Cf b _ _ hk).mono ?_;rintro e w2 ⟨rfl,a0⟩;have b3:=a0.size;have kA:=kA.up a0 kA.2.2;have k2:=k2.up a0 k2.2.2;have k3:=k3.up a0 k3.2.2;have a6:=D4 a4 a0;have a7:=hk.up a0;clear e0 e1 a4 a0 hk;obtain⟨e0,e1⟩:=kA.c2';go_wp2_with fail;try clear hK
 try clear K
 apply Al;intro K hK
 go_wp2_with fail;refine (TV b _ _ _ _ _).mono ?_;rintro e w3 ⟨rfl,a8⟩;obtain⟨kQ,a3,b2⟩:CB w3 w2.heap.size [Vz a1 b.tg.length c1,Vz a2 b.bs.length c2]/\Up w2 w3/\w3.heap.size=w2.heap.size+1:=by rw[a8];exact ML w2 [Vz a1 b.tg.length c1,Vz a2 b.bs.length c2] _
 have kA:=kA.up a3 kA.2.2;have k2:=k2.up a3 k2.2.2;have k3:=k3.up a3 k3.2.2;have a9:=D4 a6 a3;have b0:=a7.up a3;clear e0 e1 a8 a6 a3 a7;go_wp2_with fail;exact⟨rfl,_,w.heap.size,w.heap.size+1,w.heap.size+2,w2.heap.size,a1,c1,a2,c2,_,_,rfl,rfl,rfl,rfl,rfl,rfl,kA,k2,k3,kQ,b0,by omega,by omega,by omega,by omega,by omega,HR.out _ a9⟩
noncomputable def Ec:Code:=Tryz.f69.body.getD .skip
noncomputable def UT:Code:=match Ec with | .seq r _=>r|_=>.skip
noncomputable def UU:Code:=match Ec with | .seq _ (.seq r _)=>r|_=>.skip
noncomputable def LF:Code:=match Ec with | .seq _ (.seq _ r)=>r|_=>.skip
def slF(y q:Value):Array Value:=#[y,q,undef,undef,undef,undef,undef,undef,undef,undef,undef,undef,undef,undef,undef,undef,undef,undef,undef,undef,undef,undef,undef,undef,undef,undef,undef,undef,undef,undef,undef,undef,undef]
end Go.Proofs.YtcgkgmmclfeohaaGreatDoor
namespace Go.Proofs.YtcgkgmmclfeohaaGreatDoor
open Go.Proofs.Tryz
open Go.Conc Go.ConcN Go.RowKit Go.Conc.Lib Go.ConcR.Gen Go.ConcN.Gen
open Go.ConcR (KK wgBlock WgAt stA smA rd wr mk Payload DC0)
theorem Dm{Shun:Loc->Prop}{X:Nat->Prop}(hX:Y9 Shun X){B l:Nat}(hl:l<B){e:Event}(he:e.loc=.obj l):EvL Shun B e:=by
 obtain⟨lo,wr,sy⟩:=e;simp only at he;subst he;refine⟨λx hx hs=>?_,by simp,by simp,by cases wr<;>cases sy<;>exact hl⟩;obtain⟨a',e,ha⟩:=hX _ hs;cases wr<;>cases sy<;>simp[MemAct.ofEvent,MemAct.touch?] at hx<;>(subst hx;cases e)
theorem Dn{s:GStep}{g:Goroutine}{w:World}{K:Goroutine->World->Array Event->Prop}{l:Nat}(h:∃es,s=.go g w es/\Ew l es)(hk:∀es,Ew l es->K g w es):s.goes K:=by
 obtain⟨es,rfl,ho⟩:=h;exact hk es ho
theorem WL{P:Program}{main:Bool}{R:World->World->Prop}{D:World->World->Array Event->Prop}{Stop:Goroutine->World->Prop}{m:Nat}{g:Goroutine}{w w':World}(h:w=w')(hg:Go.Conc.Goes P main R D Stop m g w'):Go.Conc.Goes P main R D Stop m g w:=h ▸ hg
theorem Abe{V:World}{l:Nat}{o o':Obj}(h:V.heap[l]?=some o):(V.putObj l o').putObj l o=V:=by
 have:((V.putObj l o').putObj l o).heap=V.heap:=by
  apply Array.ext_getElem?
  intro k;by_cases e:k=l
  ·subst e;rw[h,World.putObj_heap_same (by rw[World.putObj_size];exact (D2.1 h).1)]
  ·rw[World.putObj_heap_other e,World.putObj_heap_other e]
 show {V with heap:=_}=V
 have e2:(((V.heap.setIfInBounds l o').setIfInBounds l o))=V.heap:=this;cases V
 simp only[World.putObj] at e2 ⊢
 rw[e2]
theorem SC{V:World}{l b k:Nat}{o:Obj}(h:b≠l):(V.putObj l o).cell? ⟨b,k,none⟩=V.cell? ⟨b,k,none⟩:=C2 (World.putObj_heap_other h)
theorem Lu(T:Array Value)(h:T.size=18):∃u0 u1 u2 u3 u4 u5 u6 u7 u8 u9 u10 u11 u12 u13 u14 u15 u16 u17:Value,T=#[u0,u1,u2,u3,u4,u5,u6,u7,u8,u9,u10,u11,u12,u13,u14,u15,u16,u17]:=by
 obtain⟨l⟩:=T;simp only[List.size_toArray] at h;match l,h with
 | [u0,u1,u2,u3,u4,u5,u6,u7,u8,u9,u10,u11,u12,u13,u14,u15,u16,u17],_=>exact⟨_,_,_,_,_,_,_,_,_,_,_,_,_,_,_,_,_,_,rfl⟩
theorem E3{α:Type}{l:List α}{n:Nat}(h:l.length=n+1):∃a l',l=a::l'/\l'.length=n:=by
 cases l with
 | nil=>simp at h
 | cons a l'=>exact⟨a,l',rfl,by simpa using h⟩
theorem OQ(T:Array Value)(h:T.size=33):∃v0 v1 v2 v3 v4 v5 v6 v7 v8 v9 v10 v11 v12 v13 v14 v15 v16 v17 v18 v19 v20 v21 v22 v23 v24 v25 v26 v27 v28 v29 v30 v31 v32:Value,T=#[v0,v1,v2,v3,v4,v5,v6,v7,v8,v9,v10,v11,v12,v13,v14,v15,v16,v17,v18,v19,v20,v21,v22,v23,v24,v25,v26,v27,v28,v29,v30,v31,v32]:=by
 obtain⟨l⟩:=T;simp only[List.size_toArray] at h;obtain⟨v0,l1,rfl,h1⟩:=E3 h;obtain⟨v1,l2,rfl,h2⟩:=E3 h1;obtain⟨v2,l3,rfl,h3⟩:=E3 h2;obtain⟨v3,l4,rfl,h4⟩:=E3 h3;obtain⟨v4,l5,rfl,h5⟩:=E3 h4;obtain⟨v5,l6,rfl,h6⟩:=E3 h5;obtain⟨v6,l7,rfl,h7⟩:=E3 h6;obtain⟨v7,l8,rfl,h8⟩:=E3 h7;obtain⟨v8,l9,rfl,h9⟩:=E3 h8;obtain⟨v9,c5,rfl,a0⟩:=E3 h9;obtain⟨v10,c6,rfl,a1⟩:=E3 a0;obtain⟨v11,c7,rfl,a2⟩:=E3 a1;obtain⟨v12,c8,rfl,a3⟩:=E3 a2;obtain⟨v13,c9,rfl,a4⟩:=E3 a3;obtain⟨v14,d0,rfl,a5⟩:=E3 a4;obtain⟨v15,d1,rfl,a6⟩:=E3 a5;obtain⟨v16,d2,rfl,a7⟩:=E3 a6;obtain⟨v17,d3,rfl,a8⟩:=E3 a7;obtain⟨v18,d4,rfl,a9⟩:=E3 a8;obtain⟨v19,d5,rfl,b0⟩:=E3 a9;obtain⟨v20,d6,rfl,b1⟩:=E3 b0;obtain⟨v21,d7,rfl,b2⟩:=E3 b1;obtain⟨v22,d8,rfl,b3⟩:=E3 b2;obtain⟨v23,d9,rfl,b4⟩:=E3 b3;obtain⟨v24,e0,rfl,b5⟩:=E3 b4;obtain⟨v25,e1,rfl,b6⟩:=E3 b5;obtain⟨v26,e2,rfl,b7⟩:=E3 b6;obtain⟨v27,e3,rfl,b8⟩:=E3 b7;obtain⟨v28,e4,rfl,b9⟩:=E3 b8;obtain⟨v29,e5,rfl,c1⟩:=E3 b9;obtain⟨v30,e6,rfl,c2⟩:=E3 c1;obtain⟨v31,e7,rfl,c3⟩:=E3 c2;obtain⟨v32,e8,rfl,c4⟩:=E3 c3;obtain rfl:=List.eq_nil_of_length_eq_zero c4;exact⟨_,_,_,_,_,_,_,_,_,_,_,_,_,_,_,_,_,_,_,_,_,_,_,_,_,_,_,_,_,_,_,_,_,rfl⟩
noncomputable def bA:Frame:=base 15
noncomputable def bO:Frame:=base 40
noncomputable def bF:Frame:=base 69
noncomputable def bR(l:Nat):Frame:={base 40 with roundOf:=some l}
theorem Afk(bv:Value):Frame.enter prog 15 #[bv] .normal=bA.at ⟨slA bv,[]⟩ [.code Gz]:=by
 simp[Frame.enter,Frame.at,func15,bA,base,slA,Gz,Tryz.f15]
theorem Afl(bv:Value):Frame.enter prog 40 #[bv] .normal=bO.at ⟨US bv,[]⟩ [.code BT]:=by
 simp[Frame.enter,Frame.at,func40,bO,base,US,BT,Tryz.f40]
theorem Afm(y q:Value):Frame.enter prog 69 (#[y] ++ #[q]) .normal=bF.at ⟨slF y q,[]⟩ [.code Ec]:=by
 simp[Frame.enter,Frame.at,func69,bF,base,slF,Ec,Tryz.f69]
theorem SD(l:Nat)(T:Array Value)(ag bd:Code):Frame.round l 40 T ag bd .normal=(bR l).atR ⟨T,[]⟩ [.code ag,.beginRound,.code bd]:=rfl
noncomputable def Za:Code:=match FE with | .block _ (.rangeFunc _ _ a _)=>a|_=>.skip
noncomputable def Zb:Code:=match FE with | .block _ (.rangeFunc _ _ _ b)=>b|_=>.skip
noncomputable def Ab(T:Array Value)(d:Nat):Loop:={state:=.ready,pending:=none,fn:=40,tmps:=T,params:=#[10],assign:=Za,body:=Zb,defers:=d}
noncomputable def V1(V:World)(T:Array Value):World:=(V.alloc (.deferred (some []))).alloc (.loop (Ab T V.heap.size))
def Abf(d:Nat):List Deferred:=[{target:=.collected d,args:=#[]}]
noncomputable def cO(T:Array Value)(d l:Nat):Frame:=bO.at ⟨T,Abf d⟩ (.inRangeFunc l::.inBlock 0::[.code KM])
section
variable {X:Nat->Prop} {Shun:Loc->Prop} {c:Frame} {cs:List Frame}
theorem Ah9{V:World}{T:Array Value}{q:Nat}(t9:T[9]?=some (.func (.func 69) #[] #[Pz q 0])):
  Go.Conc.Goes prog true AtRel (DE λ_=>False) (λg w'=>g=G (Frame.enter prog 69 (#[.func (.yield (V.heap.size+1)) #[] #[]] ++ #[Pz q 0]) .normal) (cO T V.heap.size (V.heap.size+1)::c::cs)/\AtRel (V1 V T) w') 5 (G (bO.at ⟨T,[]⟩ [.code FE,.code KM]) (c::cs)) V:=by
 have rl:∀{V w w₁:World},AtRel V w->AtRel w w₁->AtRel V w₁:=λh r=>atRel_trans _ _ _ h r;have hF:AtRel V V:=atRel_refl V;have e:FE=.block 0 (.rangeFunc (.tmp 9) #[10] Za Zb):=by simp only[FE,Za,Zb,BT,Tryz.f40,Option.getD_some]
 rw[e];u_c stepG_block rl hF
 u_in rl hF
 obtain⟨d,rfl⟩:=hF;rw[WB (gf:=69) (lb:=#[Pz q 0]) (by simp[Act.eval,t9]) func69 (by kernel_rfl) rfl rfl];simp only[goes_go];refine⟨λe he=>by simp at he,?_⟩;exact Go.Conc.Goes.stop λw₂ r=>⟨rfl,rl (V:=V1 V T) ⟨d,rfl⟩ r⟩
noncomputable def Iu:Code:=match LF with | .block _ (.loop c)=>c|_=>.skip
theorem Zc(T:Array Value)(v:Value):((#[10]:Array Tmp).zip #[v]).foldl (λt (p,a)=>t.setIfInBounds p a) T=T.setIfInBounds 10 v:=by
 rw[← Array.foldl_toList];simp
end
end Go.Proofs.YtcgkgmmclfeohaaGreatDoor
