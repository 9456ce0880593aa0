/- Books that are short, and stay so whatever is asked of them. -/
import Derived.Test.YtgecdacgmehmbaaGreatDoorKt9
import Derived.Test.YtgecdacgmehmbaaGreatDoorJ11
import Derived.Test.YtgecdacgmehmbaaGreatDoorJ28
import Derived.Test.YtgecdacgmehmbaaGreatDoorJ17
import Derived.Test.YtgecdacgmehmbaaGreatDoorJ36
import Derived.Test.YtgecdacgmehmbaaGreatDoorJ22
set_option maxRecDepth 100000
set_option maxHeartbeats 4000000
namespace Go.Proofs.YtgecdacgmehmbaaGreatDoor
open Go.RowKit
def Tiny (b:Bk):Prop:=b.things.length<=40/\b.bs.length<=40/\∀x∈b.bs,x.has.length<=40/\x.needs.length<=40
theorem AcL:Tiny nobody:=⟨by simp[nobody],by simp[nobody],λx hx=>by simp[nobody] at hx⟩
theorem Aiz {α:Type} {l:List α} {k:Nat} {x y:α} (h:y∈l.take k++x::l.drop k):y∈l∨y=x:=by
 rcases D0.1 h with h|h
 ·exact .inl (List.mem_of_mem_take h)
 ·rcases List.mem_cons.1 h with h|h
  ·exact .inr h
  ·exact .inl (List.mem_of_mem_drop h)
theorem Amu {b:Bk} {nm:ByteArray} {needs:List ByteArray} (hz:Szb b) (ht:Tiny b) (hn:∀s∈needs,s.size<=maxLen):Szb (enterB b nm needs)/\Tiny (enterB b nm needs):=by
 cases hok:bookB b
 ·rw[(AfO hok).2];exact⟨AbG,AcL⟩
 ·cases h2:(nameB nm&&pB (PartOk needs b.things))
  ·rw[(Ac2 hok h2).2];exact⟨hz,ht⟩
  ·cases h3:memS (nms b.bs) nm
   ·by_cases h4:5<=b.bs.length
    ·rw[(AdT hok h2 h3 h4).2];exact⟨hz,ht⟩
    ·rw[(AeK hok h2 h3 h4).2]
     have hp:PartOk needs b.things:=F7.1 (by rw[Bool.and_eq_true] at h2;exact h2.2);have hl:=L5 hp;obtain⟨s1,s2,s3⟩:=M1 (O4 hok);refine⟨⟨hz.1,λy hy=>?_⟩,by show b.things.length<=40;omega,by simp;omega,λy hy=>?_⟩
     ·rcases Aiz hy with h|rfl
      ·exact hz.2 y h
      ·exact⟨λs hs=>by simp at hs,hn⟩
     ·rcases Aiz hy with h|rfl
      ·exact ht.2.2 y h
      ·exact⟨by simp,by show needs.length<=40;omega⟩
   ·rw[(Ade hok h2 h3).2];exact⟨hz,ht⟩
theorem chg_dk {b:Bk} {p:Nat} {f:Ba->Ba} (hz:Szb b) (ht:Tiny b) (hf:∀x∈b.bs,((∀s∈(f x).has,s.size<=maxLen)/\∀s∈(f x).needs,s.size<=maxLen)/\(f x).has.length<=40/\(f x).needs.length<=40):Szb (chg b p f)/\Tiny (chg b p f):=by
 cases hx:b.bs[p]? with
 | none=>simp only[chg,hx];exact⟨hz,ht⟩
 | some x =>
  rw[AdU hx];have hm:=A6 hx;refine⟨⟨hz.1,λy hy=>?_⟩,ht.1,by rw[List.length_set];exact ht.2.1,λy hy=>?_⟩
  ·rcases List.mem_or_eq_of_mem_set hy with h|rfl
   ·exact hz.2 y h
   ·exact (hf x hm).1
  ·rcases List.mem_or_eq_of_mem_set hy with h|rfl
   ·exact ht.2.2 y h
   ·exact (hf x hm).2
theorem AhH {b:Bk} {nm:ByteArray} (h:bookB b=true):(needsAt b nm).length<=8:=by
 obtain⟨s1,s2,s3⟩:=M1 (O4 h);cases hx:b.bs[plN b nm]? with
 | none=>simp[needsAt,hx]
 | some x=>rw[Z7 hx];exact (s3 x (A6 hx)).2
theorem ask_dk {b b':Bk} {nm:ByteArray} {things:List ByteArray} {cd:Int} (h:AskIs b nm things cd b') (hz:Szb b) (ht:Tiny b) (hn:∀s∈things,s.size<=maxLen):Szb b'/\Tiny b':=by
 have hlast:bookB b=true->pB (PartOk things (needsAt b nm))=true->Szb (chg b (plN b nm) (askF things))/\Tiny (chg b (plN b nm) (askF things)):=λhok hp=>by
  obtain⟨s1,s2,s3⟩:=M1 (O4 hok);have hl1:=L5 (F7.1 hp);have hl2:=AhH (nm:=nm) hok
  exact chg_dk hz ht λx hx=>⟨⟨λs hs=>by
   rcases AbJ _ _ s hs with h|h
   ·exact (hz.2 x hx).1 s h
   ·exact hn s h,(hz.2 x hx).2⟩,B1 (AbI x.has things) (by have:=s3 x hx;omega),(ht.2.2 x hx).2⟩
 rcases h with⟨_,_,rfl⟩|⟨_,_,_,rfl⟩|⟨_,_,_,_,rfl⟩|⟨_,_,_,_,_,rfl⟩|⟨_,_,_,_,_,_,_,rfl⟩|⟨hok,_,hp,_,_,_,rfl⟩
 ·exact⟨AbG,AcL⟩
 ·exact⟨hz,ht⟩
 ·exact⟨hz,ht⟩
 ·exact⟨hz,ht⟩
 ·exact⟨hz,ht⟩
 ·exact hlast hok hp
def AskAt (h:House) (k:Nat) (h':House):Prop:=∃x,h.bs[k]?=some x/\((0<=x.si/\h'=h)∨(x.si<0/\∃cd b',AskIs h.sh x.nm (rbOwn x) cd b'/\((cd≠0/\h'=h)∨(cd=0/\h'={h with sh:=b',bs:=h.bs.set k {x with si:=0}}))))
def AsksTo (h:House):Nat->House->Prop
 | 0,h'=>h'=h
 | k+1,h'=>∃m,AsksTo h k m/\AskAt m k h'
theorem AskAt.same {h h':House} {k:Nat} (H:AskAt h k h'):h'.now=h.now/\h'.last=h.last/\h'.ds=h.ds/\h'.bs.length=h.bs.length:=by
 obtain⟨x,hx,⟨-,rfl⟩|⟨-,cd,b',-,⟨-,rfl⟩|⟨-,rfl⟩⟩⟩:=H
 ·exact⟨rfl,rfl,rfl,rfl⟩
 ·exact⟨rfl,rfl,rfl,rfl⟩
 ·exact⟨rfl,rfl,rfl,by simp⟩
theorem AsksTo.same {h:House}:∀{k:Nat} {h':House},AsksTo h k h'->h'.now=h.now/\h'.last=h.last/\h'.ds=h.ds/\h'.bs.length=h.bs.length
 | 0,_,e=>by cases e;exact⟨rfl,rfl,rfl,rfl⟩
 | k+1,_,⟨m,hm,ha⟩=>by
  obtain⟨a1,a2,a3,a4⟩:=ha.same;obtain⟨b1,b2,b3,b4⟩:=AsksTo.same hm;exact⟨a1.trans b1,a2.trans b2,a3.trans b3,a4.trans b4⟩
theorem AcM (x:Rb):(rbOwn x).length<=100:=by
 by_cases hk:RbOk x
 ·rw[Ack hk]
  have:=Ae7 x.sl (ofL (phOf x.ps x.ad));have:=Aiu (phOf x.ps x.ad);omega
 ·rw[Acl hk];simp
theorem Ald {ps:List Ph} (h:recB ps=true) (nm:ByteArray):(slE ps nm).length<=24:=by
 have:=Aap ps nm;have:=((I4 ps).1 h).2.1;omega
theorem AgJ (x:Rb) (nm:ByteArray):(rbThings x nm).length<=100:=by
 by_cases hk:RbOk x
 ·rw[Aau hk]
  have:=Ae7 x.sl (slE x.ps nm);have:=Ald hk.2.1 nm;omega
 ·rw[Aav hk];simp
theorem BkF.w {w:World} {base:Nat} {v:Value} {b:Bk} (h:BkF w base v b):BkW w base v b:=by
 obtain⟨a1,c1,a2,c2,ps,rfl,h1,h2,h3⟩:=h;exact⟨_,_,ps,rfl,h3.own _ List.mem_cons_self,h1,h2⟩
theorem BkF.bk {w:World} {base:Nat} {v:Value} {b:Bk} (h:BkF w base v b) (hz:Szb b):BkV w v b:=h.w.bk hz
theorem Amv (k:Int):(mkB k).size<=k.toNat+2:=by
 unfold mkB;split
 ·show 2<=_;omega
 ·rw[ByteArray.size_append]
  have h1:=AlH k.toNat ⟨#[]⟩;have h2:(⟨#[]⟩:ByteArray).size=0:=rfl;have h3:(⟨#[109]⟩:ByteArray).size=1:=rfl;omega
theorem AdJ:∀(m:Int) (bs:List Ba) (k:Nat) (hk:k<bs.length),(mkBas m bs)[k]?=some (mkBa (m+szBas (bs.take k)) bs[k])
 | m,x::r,0,_=>by simp[mkBas,szBas]
 | m,x::r,k+1,hk=>by
  have ih:=AdJ (m+szBa x) r k (by simpa using hk);simp only[mkBas,List.getElem?_cons_succ,List.take_succ_cons,szBas,List.getElem_cons_succ];rw[ih,show m+(szBa x:Int)+(szBas (r.take k):Int)=m+((szBa x+szBas (r.take k):Nat):Int) by omega]
theorem Aex:∀(bs:List Ba) (k:Nat),szBas (bs.take k)<=szBas bs
 | [],k=>by simp[szBas]
 | x::r,0=>by simp[szBas]
 | x::r,k+1=>by
  have:=Aex r k;simp only[List.take_succ_cons,szBas];omega
theorem Amw {m:Int} {bs:List Ba} (h:m+szBas bs<=100000):∀x∈mkBas m bs,x.nm.size<=maxLen:=λx hx=>by
 obtain⟨i,hi,rfl⟩:=B5 hx;have hi':i<bs.length:=by rwa [L7] at hi
 have h1:=AdJ m bs i hi';rw[A0 hi] at h1;rw[A5 h1];have h2:=Amv (m+szBas (bs.take i));have h3:=Aex bs i;show (mkB _).size<=_
 unfold maxLen;omega
theorem Aj2 (b:Bk) (base:Nat) (v:Value) (w:World) (G:Nat) (hG:G<w.heap.size) (h:BkG w base (some G) v b) (hl:Lit b) (hz:base<=w.heap.size) :
  Calls Tryz.prog 46 #[v,.int .i64 1] w λe w'=>e=.returned (.int .i64 (mkEnd b))/\BkG w' base (some G) v (mkBk b)/\Below base w w'/\w'.heap[G]?=w.heap[G]?/\KpT [9,118] w w':=by
 obtain⟨a1,c1,a2,c2,ps,rfl,x1,x2,hF,hvG⟩:=h;obtain⟨l1,l2,l3⟩:=hl;have HvG:Hid (∀g,(Value.slice a2 b.bs.length c2).ownBlock=some g->some g≠some G):=hvG;clear hvG;have Hlid:Hid (szBas b.bs<=201*b.bs.length):=Aa2 b.bs l3;have hps:ps.length=b.bs.length:=by rw[← x2,B3]
 have hrow:=x1.1;rw[hps] at hrow;have hot:=hF.own _ List.mem_cons_self;have hlt:∀g,(Value.slice a1 b.things.length c1).ownBlock=some g->g<w.heap.size:=λg hg=>(hot.lt g hg).2;obtain⟨W1,hW1,kA,hB1,hs1⟩:=K6 w [.slice a1 b.things.length c1,.slice a2 b.bs.length c2] 37;have hot1:=hot.up hB1;have hF1:=hF.up hB1;have hrow1:=E0 hrow hB1;have hBB1:Below base w W1:=(A4 base w).trans (hB1.mono hz);clear hot hF hrow x1;go_enter Tryz.func46,Tryz.ntmps46
 go_upto_region 1 with fail
 try rw[hW1]
 clear hW1;obtain⟨p0,p1⟩:=kA.c2';go_wp2_with fail
 refine (AcG b.things base _ 1 _ hot1 (by omega) (by omega) (by omega)).mono ?_;rintro e w2 ⟨rfl,⟨ys,hyl,hym,hoy⟩,hg2⟩;obtain rfl:=Ach hyl hym;have hz2:=hg2.size;have hF2:=hF1.over (by omega) hg2 hoy;have HK2:Hid (w2.heap[G]?=w.heap[G]?):=(hF1.off (by omega) hg2).trans (hB1.block G hG);have HP2:Hid (KpT [9,118] w w2):=((KpT.refl _ _).up hB1).gr hot1 (by decide) hg2;have hrow2:=AdB hrow1 hot1 hg2;have hB2:Below base w w2:=F5 hBB1 (by omega) hot1 hg2 (A3 _);have kA2:=kA.kept hg2 (λe=>by have:=hlt _ e.symm;omega);clear p0 p1 kA hot1 hF1 hrow1 hBB1 hg2 hyl hym hoy;obtain⟨p0,p1⟩:=kA2.c2';go_wp2_with fail
 refine (Alb _ b.bs base _ ps (1+b.things.length) _ hrow2 x2 G (by omega) HvG.out hF2 (by omega) l2 l3 (by omega) (by omega)).mono ?_;rintro e w3 ⟨rfl,⟨qs,hrow3,hq3,hF3⟩,hB3,hK3,hP3⟩;have HP3:Hid (KpT [9,118] w w3):=HP2.out.trans hP3;clear hP3;have HK3:Hid (w3.heap[G]?=w.heap[G]?):=hK3.trans HK2.out;clear hK3;have hB4:=hB2.trans hB3;have Hr:Hid (w3.ownsRow base 118 3 (.slice a2 b.bs.length c2) b.bs.length (rowsB qs)):=hrow3;have Hq:Hid (qs.map (·.1)=mkBas (1+b.things.length) b.bs):=hq3;clear p0 p1 kA2 hrow2 hF2 hrow3 hq3;go_wp2_with fail
 go_ret
 refine⟨rfl,?_,hB4,HK3.out,HP3.out⟩
 have hql:qs.length=b.bs.length:=by
  have:=congrArg List.length Hq.out;rwa [B3,L7] at this
 refine⟨a1,c1,a2,c2,qs,?_,?_,Hq.out,?_,?_⟩
 ·show Value.agg #[_,_]=Value.agg #[.slice _ (mkL 1 b.things.length).length _,.slice _ (mkBas _ b.bs).length _]
  rw[M5,L7]
 ·show BsW _ _ (.slice _ (mkBas _ b.bs).length _) _
  rw[L7];refine hF3.bsW (fs:=[(.slice a1 b.things.length c1,mkL 1 b.things.length)]) (by rw[hql];exact Hr.out) (λp hp=>?_);have hm:p.1∈mkBas (1+b.things.length) b.bs:=by rw[← Hq.out];exact List.mem_map.2 ⟨p,hp,rfl⟩
  exact Amw (by have:=Hlid.out;omega) p.1 hm
 ·show Fam _ _ _ ((.slice _ (mkL 1 b.things.length).length _,_)::_)
  rw[M5];exact hF3
 ·intro g hg
  rw[show (mkBk b).bs.length=b.bs.length from L7 _ _] at hg;exact HvG.out g hg
theorem AhI (t:Value×List ByteArray) (bs:List Ba) (base:Nat) (v:Value) (ps:List Bv) (m:Int) (w:World) (hrow:w.ownsRow base 118 3 v bs.length (rowsB ps)) (hq:ps.map (·.1)=mkBas m bs) (hF:Fam w base none (t::famB ps))
  (hn:bs.length<=100) (hs:∀x∈bs,x.has.length<=100/\x.needs.length<=100) (hm:1<=m) (hm9:m<=1000) :
  Calls Tryz.prog 94 #[v,.int .i64 m] w λe w'=>e=.returned (.int .i64 (m+szBas bs))/\Below w.heap.size w w':=by
 rcases C3 bs.length with h0|h0
 ·obtain rfl:bs=[]:=C4.1 h0
  obtain⟨a,c,rfl⟩:=E9 hrow;clear hrow hF hq;simp only[List.length_nil];go_enter Tryz.func94,Tryz.ntmps94
  go_wp2
  go_rounds 1
  go_ret
  exact⟨by simp[szBas],A4 _ _⟩
 obtain⟨g,cap,rfl⟩:=F2 hrow h0;have hgl:=(hrow.lt g rfl).2;have Hq:Hid (ps.map (·.1)=mkBas m bs):=hq;have Hrow:Hid (w.ownsRow base 118 3 (.slice (some ⟨g,0,none⟩) bs.length cap) bs.length (rowsB ps)):=hrow;have HF:Hid (Fam w base none (t::famB ps)):=hF;clear hq hrow hF;go_enter Tryz.func94,Tryz.ntmps94
 go_wp2
 go_loopw [1,5] (λkk i w'=>∃(k:Nat) (y:Int),k<=bs.length/\i=.int .i64 k/\kk=.int .i64 y/\y=m+szBas (bs.take k)/\1<=y/\y<=1000+201*(k:Int)/\Below w.heap.size w w') (λ_ i _=>bs.length-(intOf i).toNat)
 case atStart=>exact⟨0,m,by omega,rfl,rfl,by simp[szBas],hm,by omega,A4 _ _⟩
 case round =>
  obtain⟨k,y,hk,rfl,rfl,hy,hy1,hy9,hB⟩:=hrel;have Hy:Hid (y=m+szBas (bs.take k)):=hy;clear hy;by_cases hp:k<bs.length
  ·obtain⟨s1,s2⟩:=hs bs[k] (by simp)
   have Hpk:Hid (∃hv nv,ps[k]?=some (mkBa y bs[k],hv,nv)):=by
    have h1:(ps.map (·.1))[k]?=some (mkBa y bs[k]):=by rw[Hq.out,AdJ m bs k hp,Hy.out]
    rw[B0] at h1;obtain⟨p,hp,e⟩:=B4.1 h1;exact⟨p.2.1,p.2.2,by rw[hp,← e]⟩
   have Hsz:Hid (m+(szBas (bs.take (k+1)):Int)=y+szBa bs[k]):=by
    show _=_
    rw[A7 hp,Aci,Hy.out];omega
   generalize bs[k]=x0 at *;obtain⟨hv,nv,hpk⟩:=Hpk.out;have hF3:=HF.out.front hpk;have hoh:=hF3.own _ List.mem_cons_self;have hon:=hF3.own _ (C7 _ List.mem_cons_self);have hoh:OwnT w base hv (mkL (y+1) x0.has.length):=hoh;have hon:OwnT w base nv (mkL (y+1+x0.has.length) x0.needs.length):=hon;obtain⟨ah,ch,hhv⟩:=hoh.lst.shape;obtain⟨an,cn,hnv⟩:=hon.lst.shape;rw[M5] at hhv hnv;subst hhv hnv;have c0:=Hrow.out.cellAt (k*3) (by omega);rw[show (rowsB ps)[k*3]?=some (Value.string (mkB y)) from M4 ps k _ hpk 0 _ rfl] at c0;have c1:=Hrow.out.cellAt (k*3+1) (by omega);rw[M4 ps k _ hpk 1 _ rfl] at c1;have c2:=Hrow.out.cellAt (k*3+2) (by omega);rw[M4 ps k _ hpk 2 _ rfl] at c2;have C1:Hid (∀W,Below w.heap.size w W->W.cell? ⟨g,k*3+1,none⟩=some (.slice ah x0.has.length ch)):=λW hW=>(hW.cell (p:=⟨g,k*3+1,none⟩) hgl).trans c1;have C2:Hid (∀W,Below w.heap.size w W->W.cell? ⟨g,k*3+2,none⟩=some (.slice an x0.needs.length cn)):=λW hW=>(hW.cell (p:=⟨g,k*3+2,none⟩) hgl).trans c2;have OH:Hid (∀W,Below w.heap.size w W->OwnT W base (.slice ah x0.has.length ch) (mkL (y+1) x0.has.length)):=λW hW=>hoh.up hW;have ON:Hid (∀W,Below w.heap.size w W->OwnT W base (.slice an x0.needs.length cn) (mkL (y+1+x0.has.length) x0.needs.length)):=λW hW=>hon.up hW;have d0:=(hB.cell (p:=⟨g,k*3,none⟩) hgl).trans c0;have hS:Below w.heap.size w wr/\wr.cell? ⟨g,k*3,none⟩=some (.string (mkB y)):=⟨hB,d0⟩;clear hpk Hpk hF3 hoh hon c0 c1 c2 d0;go_wp2_with fail
   go_region_held (λw'=>Below w.heap.size w w'/\w'.cell? ⟨g,k*3,none⟩=some (.string (mkB y))) (first|exact⟨hS.1.drew,hS.2⟩|exact Z4 hgl (by assumption) (by assumption))
    (first|(go_at_call 49;refine (F8 y _ (by omega)).mono ?_;rintro e w1 ⟨rfl,hB1⟩))
   rename_i hHeld;have hB3:=hHeld.1;clear hHeld hS hB;generalize mkB y=mb at *;have d1:=C1.out _ hB3;go_wp2_with fail
   refine (AcH (mkL (y+1) x0.has.length) base _ (y+1) _ (OH.out _ hB3) (by rw[M5];exact AaA _ _) (by rw[M5];omega) (by omega) (by omega)).mono ?_;rw[M5];rintro e w4 ⟨rfl,hB4⟩;have hB5:=D5 hB3 hB4;have d2:=C2.out _ hB5;clear d1 hB3 hB4;have hn1:¬(y+1+(x0.has.length:Int)<0):=by omega
   go_wp2_with fail
   refine (AcH (mkL (y+1+x0.has.length) x0.needs.length) base _ (y+1+x0.has.length) _ (ON.out _ hB5) (by rw[M5];exact AaA _ _) (by rw[M5];omega) (by omega) (by omega)).mono ?_;rw[M5];rintro e w6 ⟨rfl,hB6⟩;have hB7:=D5 hB5 hB6;clear d2 hB5 hB6;have hn2:¬(y+1+(x0.has.length:Int)+(x0.needs.length:Int)<0):=by omega
   go_wp2_with fail
   go_roundw
   case rel=>exact⟨k+1,_,by omega,by go_num,rfl,by rw[Hsz.out];simp[szBa];omega,by omega,by omega,hB7⟩
   case measure=>simp[intOf];omega
  ·obtain rfl:k=bs.length:=by omega
   have HE:Hid (y=m+szBas bs):=by have:=Hy.out;rwa [List.take_length] at this
   go_wp2_with fail
   go_ret
   exact⟨by rw[← HE.out];rfl,hB⟩
theorem Af2 (b:Bk) (base:Nat) (v:Value) (w:World) (h:BkF w base v (mkBk b)) (hl:Lit b) :
  Calls Tryz.prog 50 #[v,.int .i64 1] w λe w'=>e=.returned (.int .i64 (mkEnd b))/\Below w.heap.size w w':=by
 obtain⟨a1,c1,a2,c2,ps,rfl,x1,x2,hF⟩:=h;obtain⟨l1,l2,l3⟩:=hl;have e1:(mkBk b).things.length=b.things.length:=M5 _ _;have e2:(mkBk b).bs.length=b.bs.length:=L7 _ _;have hps:ps.length=b.bs.length:=by rw[← e2,← x2,B3]
 have hrow:=x1.1;rw[e1,e2];rw[e2,hps] at hrow;rw[e1] at hF;have x2:ps.map (·.1)=mkBas (1+b.things.length) b.bs:=x2;have hot:OwnT w base (.slice a1 b.things.length c1) (mkL 1 b.things.length):=hF.own _ List.mem_cons_self;obtain⟨W1,hW1,kA,hB1,hs1⟩:=K6 w [.slice a1 b.things.length c1,.slice a2 b.bs.length c2] 37;have Hsz:Hid (szBas b.bs<=201*b.bs.length):=Aa2 b.bs l3;clear x1 e1 e2;go_enter Tryz.func50,Tryz.ntmps50
 go_upto_region 1 with fail
 try rw[hW1]
 clear hW1;obtain⟨p0,p1⟩:=kA.c2';go_wp2_with fail
 refine (AcH (mkL 1 b.things.length) base _ 1 _ (hot.up hB1) (by rw[M5];exact AaA _ _) (by rw[M5];omega) (by omega) (by omega)).mono ?_;rw[M5];rintro e w2 ⟨rfl,hB2⟩;have kA2:=kA.up hB2 (by omega);have hB12:=D5 hB1 hB2;clear p0 p1 kA;obtain⟨p0,p1⟩:=kA2.c2';have hn1:¬(1+(b.things.length:Int)<0):=by omega
 have hr2:=E0 hrow hB12;have hF2:=hF.up hB12;go_wp2_with fail
 refine (AhI _ b.bs base _ ps (1+b.things.length) _ hr2 x2 hF2 l2 l3 (by omega) (by omega)).mono ?_;rintro e w3 ⟨rfl,hB3⟩;have hB13:=D5 hB12 hB3;clear p0 p1 kA2 hr2 hF2;have hn2:¬(1+(b.things.length:Int)+(szBas b.bs:Int)<0):=by omega
 have HE:Hid (mkEnd b=1+b.things.length+szBas b.bs):=rfl;generalize szBas b.bs=z at *;go_wp2_with fail
 go_ret
 exact⟨by rw[HE.out];rfl,hB13⟩
theorem Out.below {lo hi:Nat} {w w':World} (h:Out lo hi w w') (hl:lo<=w.heap.size):Below lo w w':=⟨h.1,h.2.1,h.2.2.1,h.2.2.2.1,λ_ hi=>h.blk (by omega) (.inl hi)⟩
theorem V0 {w w':World} {lo hi base e size n:Nat} {v:Value} {xs:List Value} (h:w.ownsRow base e size v n xs) (ho:Out lo hi w w') (hb:hi<=base):w'.ownsRow base e size v n xs:=by
 refine⟨h.1,?_⟩;rcases h.2 with h0|⟨g,cap,cur,hv,hg,hh,q⟩
 ·exact .inl h0
 ·refine .inr ⟨g,cap,cur,hv,hg,?_,q⟩
  rw[ho.blk (D3.1 hh).1 (.inr (by omega))];exact hh
theorem Ale (b:Bk):1<=mkEnd b:=by unfold mkEnd;omega
end Go.Proofs.YtgecdacgmehmbaaGreatDoor
namespace Go.Proofs.YtgecdacgmehmbaaGreatDoor
open Go.RowKit Go.Maps
theorem AdK {a b:ByteArray} (h:a=b):Ending.returned (.string a)=.returned (.string b):=by rw[h]
theorem Anh (b:Bk) (v:Value) (s:ByteArray) (w:World) (h:BkV w v b) (hs:s.size<=maxLen) :
  Calls Tryz.prog 266 #[v,.string s] w λe w'=>e=.returned (.string (whoS b s))/\Below w.heap.size w w':=by
 obtain⟨a1,c1,a2,c2,rfl,h1,h2⟩:=h.parts;have hC:CB (w.alloc (.cells #[.slice a1 (b).things.length c1,.slice a2 (b).bs.length c2] 37)) w.heap.size [.slice a1 b.things.length c1,.slice a2 b.bs.length c2]:=E8 w _ _;have hB0:=(A4 w.heap.size w).alloc (A3 _) (.cells #[.slice a1 (b).things.length c1,.slice a2 (b).bs.length c2] 37);go_enter Tryz.func266,Tryz.ntmps266
 go_upto_region 1 with fail
 generalize w.alloc (.cells #[.slice a1 (b).things.length c1,.slice a2 (b).bs.length c2] 37)=W1 at *;have l2:=h2.up hB0;have hk:=h.up hB0;clear h h1 h2;obtain⟨e0,e1⟩:=hC.c2';have hlt:=hC.2.2;go_wp2_with fail
 refine (AbY b _ _ hk).mono ?_;rintro e w2 ⟨rfl,hB2⟩;cases hq:bookB b
 ·have Hq:Hid (whoS b s=⟨#[]⟩):=by show _=_;rw[whoS,hq];rfl
  go_wp2_with fail
  go_ret
  exact⟨AdK Hq.out.symm,D5 hB0 hB2⟩
 have Hq:Hid (whoS b s=whoB b.bs s):=by show _=_;rw[whoS,if_pos hq]
 have hok:BookOk b:=F7.1 hq;have h8:=Aii hok.1.1 hok.2.2.2.2.1;have h5:=hok.2.1;have hA:=hok.2.2.2.2.2;clear hok hq;have f1:=(hB2.cell (p:=⟨w.heap.size,1,none⟩) hlt).trans e1;go_wp2_with fail
 refine (Adi b.bs _ _ (l2.up hB2) h5 h8).mono ?_;rintro e w3 ⟨hh,hb3⟩;have hB3:=D5 hB2 hb3;rcases hh with⟨-,M,n,D,rfl,hmap,hD,-⟩|⟨hN,-⟩
 case inr=>exact absurd hA hN
 clear f1 hb3 hB2;have hkey:keyOf Tryz.prog 9 (.string s)=some (kl s):=WideMaps.keyOf_string_mk Tryz.underlying9 hs;have f1:=(hB3.cell (p:=⟨w.heap.size,1,none⟩) hlt).trans e1;cases ht:Maps.has D (kl s)
 ·have Hm:Hid (whoS b s=⟨#[]⟩):=by show _=_;rw[Hq.out];exact hD.whoNone (by omega) ht
  go_wp2_with (at_lookup;refine wpList_lookup_own_ok_int _ rfl _ _ 253 rfl 9 3 .i64 Ac9 Tryz.underlying253 Tryz.underlying3 (AcU _) M n D rfl hmap _ _ rfl hkey ?_;intro cc _ _)
  go_ret
  exact⟨AdK Hm.out.symm,D5 hB0 hB3⟩
 ·obtain⟨i,hi,hz,hw⟩:=hD.who ht
  have Hm:Hid (whoS b s=(b.bs[i]).nm):=by show _=_;rw[Hq.out];exact hw
  have Hz:Hid (∀cc:Int,D.atKey (kl s) (.lit (.int .i64 0))=.lit (.int .i64 cc)->cc=(i:Int)):=λcc h=>by
   rw[hz] at h;simpa using h.symm
  obtain⟨-,hpos⟩:=l2.at;obtain⟨bb,o,rfl,hS,hb⟩:=hpos (by omega);obtain⟨a3,d3,a4,d4,c3,c4,c5,-,-,-⟩:=((hS.at hi).up hB3 hb).cells;generalize b.bs[i]=x0 at *;clear hS hz hw hD Hq;go_wp2_with (at_lookup;refine wpList_lookup_own_ok_int _ rfl _ _ 253 rfl 9 3 .i64 Ac9 Tryz.underlying253 Tryz.underlying3 (AcU _) M n D rfl hmap _ _ rfl hkey ?_;intro cc hcc _;obtain rfl:=Hz.out cc hcc;clear hcc)
  go_ret
  exact⟨AdK Hm.out.symm,D5 hB0 hB3⟩
end Go.Proofs.YtgecdacgmehmbaaGreatDoor
