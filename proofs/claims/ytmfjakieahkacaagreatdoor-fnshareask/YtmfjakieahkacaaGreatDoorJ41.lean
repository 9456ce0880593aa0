/- Safe by the program, beside leavers, where nobody moves: its frames up to what is looped over. -/
import Derived.Test.YtmfjakieahkacaaGreatDoorJ33
import Derived.Test.YtmfjakieahkacaaGreatDoorJ36
import Derived.Test.YtmfjakieahkacaaGreatDoorJ17
import Derived.Test.YtmfjakieahkacaaGreatDoorJ35
import Derived.Test.YtmfjakieahkacaaGreatDoorJ32
set_option maxRecDepth 100000
set_option maxHeartbeats 4000000
namespace Go.Proofs.YtmfjakieahkacaaGreatDoor
open Go.RowKit
theorem Rj(b:Bk)(a1 a2:Option Addr)(c1 c2:Nat)(w:World):
  Calls Tryz.prog 48 #[.agg #[.slice a1 b.tg.length c1,.slice a2 b.bs.length c2]] w λe w'=>e=.returned (.func (.func 69) #[] #[.pointer (some ⟨w.heap.size,0,none⟩)])/\w'=w.alloc (.cells #[.slice a1 b.tg.length c1,.slice a2 b.bs.length c2] 26):=by
 go_enter Tryz.func48,Tryz.ntmps48;go_wp2;go_ret;exact⟨rfl,rfl⟩
noncomputable def Fk:Code:=Tryz.f10.body.getD .skip
noncomputable def Sd:Code:=match Fk with | .seq r _=>r|_=>.skip
noncomputable def NF:Code:=match Fk with | .seq _ r=>r|_=>.skip
noncomputable def Lv:Array Oper:=match NF with | .seq (.region _ o _) _=>o|_=>#[]
noncomputable def Wf:Code:=match NF with | .seq _ r=>r|_=>.skip
def YH(bv:Value):Array Value:=#[bv,undef,undef,undef,undef,undef,undef,undef,undef,undef,undef]
def AtA(b:Bk)(R:World->Prop)(a:Act)(u:World):Prop :=
 ∃T bx a1 c1 a2 c2,a=⟨T,[]⟩/\T.size=11/\T[1]?=some (.pointer (some ⟨bx,0,none⟩))/\CB u bx [.slice a1 b.tg.length c1,.slice a2 b.bs.length c2]/\K0 u (.agg #[.slice a1 b.tg.length c1,.slice a2 b.bs.length c2]) b/\R u
theorem Abp(b:Bk)(bv:Value)(w:World)(h:K0 w bv b){R:World->Prop}(HR:Hid (∀u,Below w.heap.size w u->R u)):
  Bb Tryz.prog [Sd] (λe a u=>e=.normal/\AtA b R a u) ⟨YH bv,[]⟩ w:=by
 obtain⟨a1,c1,a2,c2,rfl,h1,h2⟩:=h.parts;clear h1 h2;simp only[Sd,YH,Fk,Tryz.f10,Option.getD_some];obtain⟨W1,hW1,kA,hB1,hs1⟩:=cbE1 w [.slice a1 b.tg.length c1,.slice a2 b.bs.length c2] 26;apply Y1;intro K hK
 go_wp2_with fail;try rw[hW1]
 exact⟨rfl,_,w.heap.size,a1,c1,a2,c2,rfl,rfl,rfl,kA,h.up hB1,HR.out _ hB1⟩
noncomputable def Bw:Code:=Tryz.f29.body.getD .skip
noncomputable def Ji:Code:=match Bw with | .seq r _=>r|_=>.skip
noncomputable def Iw:Code:=match Bw with | .seq _ (.seq r _)=>r|_=>.skip
noncomputable def Lw:Code:=match Bw with | .seq _ (.seq _ (.seq (.seq r _) _))=>r|_=>.skip
noncomputable def Eu:Code:=match Bw with | .seq _ (.seq _ (.seq (.seq _ r) _))=>r|_=>.skip
noncomputable def Jj:Code:=match Bw with | .seq _ (.seq _ (.seq _ r))=>r|_=>.skip
def Se(bv:Value):Array Value:=#[bv,undef,undef,undef,undef,undef,undef,undef,undef,undef,undef,undef,undef,undef,undef,undef,undef,undef]
def AtO(b:Bk)(lo:Nat)(R:World->Prop)(a:Act)(u:World):Prop :=
 ∃T bx p2 p3 q a1 c1 a2 c2 x2 x3,a=⟨T,[]⟩/\T.size=18/\T[1]?=some (.pointer (some ⟨bx,0,none⟩))/\T[2]?=some (.pointer (some ⟨p2,0,none⟩))/\T[3]?=some (.pointer (some ⟨p3,0,none⟩))/\T[9]?=some (.func (.func 69) #[] #[.pointer (some ⟨q,0,none⟩)])/\
  CB u bx [.slice a1 b.tg.length c1,.slice a2 b.bs.length c2]/\CB u p2 [x2]/\CB u p3 [x3]/\CB u q [.slice a1 b.tg.length c1,.slice a2 b.bs.length c2]/\K0 u (.agg #[.slice a1 b.tg.length c1,.slice a2 b.bs.length c2]) b/\p2≠p3/\bx≠p2/\bx≠p3/\lo<=p2/\lo<=p3/\R u
theorem AcL(b:Bk)(bv:Value)(w:World)(h:K0 w bv b)(hbk:I1 b=true){lo:Nat}(hlo:lo<=w.heap.size){R:World->Prop}(HR:Hid (∀u,Below w.heap.size w u->R u)):
  Bb Tryz.prog [Ji,Iw,Lw] (λe a u=>e=.normal/\AtO b lo R a u) ⟨Se bv,[]⟩ w:=by
 obtain⟨a1,c1,a2,c2,rfl,h1,h2⟩:=h.parts;clear h1 h2;simp only[Ji,Iw,Lw,Se,Bw,Tryz.f29,Option.getD_some];obtain⟨W1,hW1,kA,k2,k3,hB1,hs1⟩:=cbE3 w [.slice a1 b.tg.length c1,.slice a2 b.bs.length c2] 26 [.slice none 0 0] 23 [.bool false] 4;apply Y1;intro K hK
 go_wp2_with fail;try clear hK
 try clear K
 try rw[hW1]
 clear hW1;have hk:=h.up hB1;obtain⟨e0,e1⟩:=kA.c2';clear h;apply Y1;intro K hK
 go_wp2_with fail;refine (BK b _ _ hk).mono ?_;rintro e w2 ⟨rfl,hb2⟩;have hz2:=hb2.size;have kA:=kA.up hb2 kA.2.2;have k2:=k2.up hb2 k2.2.2;have k3:=k3.up hb2 k3.2.2;have hB2:=D1 hB1 hb2;have hk2:=hk.up hb2;clear e0 e1 hB1 hb2 hk;obtain⟨e0,e1⟩:=kA.c2';go_wp2_with fail;try clear hK
 try clear K
 apply Y1;intro K hK
 go_wp2_with fail;refine (Rj b _ _ _ _ _).mono ?_;rintro e w3 ⟨rfl,hw3⟩;obtain⟨kQ,hb3,hs3⟩:CB w3 w2.heap.size [.slice a1 b.tg.length c1,.slice a2 b.bs.length c2]/\Below w2.heap.size w2 w3/\w3.heap.size=w2.heap.size+1:=by rw[hw3];exact Iy w2 [.slice a1 b.tg.length c1,.slice a2 b.bs.length c2] _
 have kA:=kA.up hb3 kA.2.2;have k2:=k2.up hb3 k2.2.2;have k3:=k3.up hb3 k3.2.2;have hB3:=D1 hB2 hb3;have hk3:=hk2.up hb3;clear e0 e1 hw3 hB2 hb3 hk2;go_wp2_with fail;exact⟨rfl,_,w.heap.size,w.heap.size+1,w.heap.size+2,w2.heap.size,a1,c1,a2,c2,_,_,rfl,rfl,rfl,rfl,rfl,rfl,kA,k2,k3,kQ,hk3,by omega,by omega,by omega,by omega,by omega,HR.out _ hB3⟩
noncomputable def Dn:Code:=Tryz.f69.body.getD .skip
noncomputable def Sf:Code:=match Dn with | .seq r _=>r|_=>.skip
noncomputable def Sg:Code:=match Dn with | .seq _ (.seq r _)=>r|_=>.skip
noncomputable def LF:Code:=match Dn with | .seq _ (.seq _ r)=>r|_=>.skip
def YI(y q:Value):Array Value:=#[y,q,undef,undef,undef,undef,undef,undef,undef,undef,undef,undef,undef,undef,undef,undef,undef,undef,undef,undef,undef,undef,undef,undef,undef,undef,undef,undef,undef,undef,undef,undef,undef]
end Go.Proofs.YtmfjakieahkacaaGreatDoor
namespace Go.Proofs.YtmfjakieahkacaaGreatDoor
open Go.Conc Go.ConcN Go.RowKit Go.Conc.Lib Go.ConcR.Gen Go.ConcN.Gen
open Go.ConcR (KK wgBlock WgAt stA smA rd wr mk Payload DC0)
theorem CG{Shun:Loc->Prop}{X:Nat->Prop}(hX:AH Shun X){B l:Nat}(hl:l<B){e:Event}(he:e.loc=.obj l):EvL Shun B e:=by
 obtain⟨lo,wr,sy⟩:=e;simp only at he;subst he;refine⟨λx hx hs=>?_,by simp,by simp,by cases wr<;>cases sy<;>exact hl⟩;obtain⟨a',e,ha⟩:=hX _ hs;cases wr<;>cases sy<;>simp[MemAct.ofEvent,MemAct.touch?] at hx<;>(subst hx;cases e)
theorem CH{s:GStep}{g:Goroutine}{w:World}{K:Goroutine->World->Array Event->Prop}{l:Nat}(h:∃es,s=.go g w es/\DB l es)(hk:∀es,DB l es->K g w es):s.goes K:=by
 obtain⟨es,rfl,ho⟩:=h;exact hk es ho
theorem TS{P:Program}{main:Bool}{R:World->World->Prop}{D:World->World->Array Event->Prop}{Stop:Goroutine->World->Prop}{m:Nat}{g:Goroutine}{w w':World}(h:w=w')(hg:Go.Conc.Goes P main R D Stop m g w'):Go.Conc.Goes P main R D Stop m g w:=h ▸ hg
theorem XY{V:World}{l:Nat}{o o':Obj}(h:V.heap[l]?=some o):(V.putObj l o').putObj l o=V:=by
 have:((V.putObj l o').putObj l o).heap=V.heap:=by
  apply Array.ext_getElem?
  intro k;by_cases e:k=l
  ·subst e;rw[h,World.putObj_heap_same (by rw[World.putObj_size];exact (C9.1 h).1)]
  ·rw[World.putObj_heap_other e,World.putObj_heap_other e]
 show {V with heap:=_}=V
 have e2:(((V.heap.setIfInBounds l o').setIfInBounds l o))=V.heap:=this;cases V
 simp only[World.putObj] at e2 ⊢
 rw[e2]
theorem PX{V:World}{l b k:Nat}{o:Obj}(h:b≠l):(V.putObj l o).cell? ⟨b,k,none⟩=V.cell? ⟨b,k,none⟩:=C2 (World.putObj_heap_other h)
theorem JJ(T:Array Value)(h:T.size=18):∃u0 u1 u2 u3 u4 u5 u6 u7 u8 u9 u10 u11 u12 u13 u14 u15 u16 u17:Value,T=#[u0,u1,u2,u3,u4,u5,u6,u7,u8,u9,u10,u11,u12,u13,u14,u15,u16,u17]:=by
 obtain⟨l⟩:=T;simp only[List.size_toArray] at h;match l,h with
 | [u0,u1,u2,u3,u4,u5,u6,u7,u8,u9,u10,u11,u12,u13,u14,u15,u16,u17],_=>exact⟨_,_,_,_,_,_,_,_,_,_,_,_,_,_,_,_,_,_,rfl⟩
theorem D7{α:Type}{l:List α}{n:Nat}(h:l.length=n+1):∃a l',l=a::l'/\l'.length=n:=by
 cases l with
 | nil=>simp at h
 | cons a l'=>exact⟨a,l',rfl,by simpa using h⟩
theorem Mz(T:Array Value)(h:T.size=33):∃v0 v1 v2 v3 v4 v5 v6 v7 v8 v9 v10 v11 v12 v13 v14 v15 v16 v17 v18 v19 v20 v21 v22 v23 v24 v25 v26 v27 v28 v29 v30 v31 v32:Value,T=#[v0,v1,v2,v3,v4,v5,v6,v7,v8,v9,v10,v11,v12,v13,v14,v15,v16,v17,v18,v19,v20,v21,v22,v23,v24,v25,v26,v27,v28,v29,v30,v31,v32]:=by
 obtain⟨l⟩:=T;simp only[List.size_toArray] at h;obtain⟨v0,l1,rfl,h1⟩:=D7 h;obtain⟨v1,l2,rfl,h2⟩:=D7 h1;obtain⟨v2,l3,rfl,h3⟩:=D7 h2;obtain⟨v3,l4,rfl,h4⟩:=D7 h3;obtain⟨v4,l5,rfl,h5⟩:=D7 h4;obtain⟨v5,l6,rfl,h6⟩:=D7 h5;obtain⟨v6,l7,rfl,h7⟩:=D7 h6;obtain⟨v7,l8,rfl,h8⟩:=D7 h7;obtain⟨v8,l9,rfl,h9⟩:=D7 h8;obtain⟨v9,l10,rfl,h10⟩:=D7 h9;obtain⟨v10,l11,rfl,h11⟩:=D7 h10;obtain⟨v11,l12,rfl,h12⟩:=D7 h11;obtain⟨v12,l13,rfl,h13⟩:=D7 h12;obtain⟨v13,l14,rfl,h14⟩:=D7 h13;obtain⟨v14,l15,rfl,h15⟩:=D7 h14;obtain⟨v15,l16,rfl,h16⟩:=D7 h15;obtain⟨v16,l17,rfl,h17⟩:=D7 h16;obtain⟨v17,l18,rfl,h18⟩:=D7 h17;obtain⟨v18,l19,rfl,h19⟩:=D7 h18;obtain⟨v19,l20,rfl,h20⟩:=D7 h19;obtain⟨v20,l21,rfl,h21⟩:=D7 h20;obtain⟨v21,l22,rfl,h22⟩:=D7 h21;obtain⟨v22,l23,rfl,h23⟩:=D7 h22;obtain⟨v23,l24,rfl,h24⟩:=D7 h23;obtain⟨v24,l25,rfl,h25⟩:=D7 h24;obtain⟨v25,l26,rfl,h26⟩:=D7 h25;obtain⟨v26,l27,rfl,h27⟩:=D7 h26;obtain⟨v27,l28,rfl,h28⟩:=D7 h27;obtain⟨v28,l29,rfl,h29⟩:=D7 h28;obtain⟨v29,l30,rfl,h30⟩:=D7 h29;obtain⟨v30,l31,rfl,h31⟩:=D7 h30;obtain⟨v31,l32,rfl,h32⟩:=D7 h31;obtain⟨v32,l33,rfl,h33⟩:=D7 h32;obtain rfl:=List.eq_nil_of_length_eq_zero h33;exact⟨_,_,_,_,_,_,_,_,_,_,_,_,_,_,_,_,_,_,_,_,_,_,_,_,_,_,_,_,_,_,_,_,_,rfl⟩
noncomputable def bA:Frame:=base 10
noncomputable def bO:Frame:=base 29
noncomputable def bF:Frame:=base 69
noncomputable def bR(l:Nat):Frame:={base 29 with roundOf:=some l}
theorem Abq(bv:Value):Frame.enter Tryz.prog 10 #[bv] .normal=bA.at ⟨YH bv,[]⟩ [.code Fk]:=by
 simp[Frame.enter,Frame.at,Tryz.func10,bA,base,YH,Fk,Tryz.f10]
theorem Abr(bv:Value):Frame.enter Tryz.prog 29 #[bv] .normal=bO.at ⟨Se bv,[]⟩ [.code Bw]:=by
 simp[Frame.enter,Frame.at,Tryz.func29,bO,base,Se,Bw,Tryz.f29]
theorem Abs(y q:Value):Frame.enter Tryz.prog 69 (#[y] ++ #[q]) .normal=bF.at ⟨YI y q,[]⟩ [.code Dn]:=by
 simp[Frame.enter,Frame.at,Tryz.func69,bF,base,YI,Dn,Tryz.f69]
theorem PY(l:Nat)(T:Array Value)(ag bd:Code):Frame.round l 29 T ag bd .normal=(bR l).atR ⟨T,[]⟩ [.code ag,.beginRound,.code bd]:=rfl
noncomputable def Wh:Code:=match Eu with | .block _ (.rangeFunc _ _ a _)=>a|_=>.skip
noncomputable def Wi:Code:=match Eu with | .block _ (.rangeFunc _ _ _ b)=>b|_=>.skip
noncomputable def Y2(T:Array Value)(d:Nat):Loop:={state:=.ready,pending:=none,fn:=29,tmps:=T,params:=#[10],assign:=Wh,body:=Wi,defers:=d}
noncomputable def V1(V:World)(T:Array Value):World:=(V.alloc (.deferred (some []))).alloc (.loop (Y2 T V.heap.size))
def XZ(d:Nat):List Deferred:=[{target:=.collected d,args:=#[]}]
noncomputable def cO(T:Array Value)(d l:Nat):Frame:=bO.at ⟨T,XZ d⟩ (.inRangeFunc l::.inBlock 0::[.code Jj])
section
variable {X:Nat->Prop} {Shun:Loc->Prop} {c:Frame} {cs:List Frame}
theorem AcM{V:World}{T:Array Value}{q:Nat}(t9:T[9]?=some (.func (.func 69) #[] #[.pointer (some ⟨q,0,none⟩)])):
  Go.Conc.Goes Tryz.prog true AtRel (DE λ_=>False) (λg w'=>g=G (Frame.enter Tryz.prog 69 (#[.func (.yield (V.heap.size+1)) #[] #[]] ++ #[.pointer (some ⟨q,0,none⟩)]) .normal) (cO T V.heap.size (V.heap.size+1)::c::cs)/\AtRel (V1 V T) w') 5 (G (bO.at ⟨T,[]⟩ [.code Eu,.code Jj]) (c::cs)) V:=by
 have rl:∀{V w w₁:World},AtRel V w->AtRel w w₁->AtRel V w₁:=λh r=>atRel_trans _ _ _ h r;have hF:AtRel V V:=atRel_refl V;have e:Eu=.block 0 (.rangeFunc (.tmp 9) #[10] Wh Wi):=by simp only[Eu,Wh,Wi,Bw,Tryz.f29,Option.getD_some]
 rw[e];u_c stepG_block rl hF
 u_in rl hF
 obtain⟨d,rfl⟩:=hF;rw[TH (gf:=69) (lb:=#[.pointer (some ⟨q,0,none⟩)]) (by simp[Act.eval,t9]) Tryz.func69 (by kernel_rfl) rfl rfl];simp only[goes_go];refine⟨λe he=>by simp at he,?_⟩;exact Go.Conc.Goes.stop λw₂ r=>⟨rfl,rl (V:=V1 V T) ⟨d,rfl⟩ r⟩
noncomputable def Gl:Code:=match LF with | .block _ (.loop c)=>c|_=>.skip
theorem Wj(T:Array Value)(v:Value):((#[10]:Array Tmp).zip #[v]).foldl (λt (p,a)=>t.setIfInBounds p a) T=T.setIfInBounds 10 v:=by
 rw[← Array.foldl_toList];simp
end
end Go.Proofs.YtmfjakieahkacaaGreatDoor
