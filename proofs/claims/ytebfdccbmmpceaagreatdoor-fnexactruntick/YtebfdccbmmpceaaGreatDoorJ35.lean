/- Books that come of needing less: their texts can be. -/
import Derived.Test.YtebfdccbmmpceaaGreatDoorJ31
import Derived.Test.YtebfdccbmmpceaaGreatDoorXr
import Derived.Test.YtebfdccbmmpceaaGreatDoorJ34
import Derived.Defers
import Derived.Test.YtebfdccbmmpceaaGreatDoorJ33
set_option maxRecDepth 20000
set_option maxHeartbeats 8000000
namespace Go.Proofs.YtebfdccbmmpceaaGreatDoor
open Go.RowKit
theorem Aop {b:Bk} {nm:ByteArray} {needs:List ByteArray} (h:lsnC b nm needs=0):∃hpl:plN b nm<b.bs.length,lsnB b nm needs=⟨b.things,b.bs.set (plN b nm) (lessF needs b.bs[plN b nm])⟩/\BookOk b/\needs.length<=8:=by
 cases hb:bookB b
 ·rw[(AbO hb).1] at h;omega
 cases hm:memS (nms b.bs) nm
 ·rw[(Aa9 hb hm).1] at h;omega
 cases hp:pB (PartOk needs (needsAt b nm))
 ·rw[(Abc hb hm hp).1] at h;omega
 obtain⟨-,hpl⟩:=T8 hm;refine⟨hpl,?_,O4 hb,AcA (O4 hb) (AcV hm hp)⟩;rw[(Abd hb hm hp).2,Abb (A0 hpl)]
theorem AlN {b:Bk} {nm:ByteArray} {needs:List ByteArray} (h:lsnC b nm needs≠0):lsnB b nm needs=nobody∨(lsnB b nm needs=b/\BookOk b):=by
 cases hb:bookB b
 ·exact .inl (AbO hb).2
 refine .inr ⟨?_,O4 hb⟩;cases hm:memS (nms b.bs) nm
 ·exact (Aa9 hb hm).2
 cases hp:pB (PartOk needs (needsAt b nm))
 ·exact (Abc hb hm hp).2
 ·exact absurd (Abd hb hm hp).1 h
theorem Anb {b:Bk} {nm:ByteArray} {needs:List ByteArray} (h:Szb b) (hn:∀s∈needs,s.size<=maxLen):Szb (lsnB b nm needs):=by
 by_cases hc:lsnC b nm needs=0
 ·obtain⟨hpl,e,-⟩:=Aop hc
  rw[e];refine⟨h.1,λx hx=>?_⟩;rcases List.mem_or_eq_of_mem_set hx with k|k
  ·exact h.2 x k
  ·subst k
   exact⟨λs hs=>(h.2 _ (List.getElem_mem hpl)).1 s (List.mem_filter.1 hs).1,hn⟩
 ·rcases AlN hc with e|⟨e,-⟩
  ·rw[e];exact Aau
  ·rw[e];exact h
end Go.Proofs.YtebfdccbmmpceaaGreatDoor
namespace Go.Proofs.YtebfdccbmmpceaaGreatDoor
open Go
theorem tkd {P:Program} {ops:Array Oper} {Q:Exit->Act->World->Prop} {md:Region.Mode} {S:World->Prop} {L:Nat} (i:Nat) (d:Option Tmp) {oi:Oper} {v:Value} {fuel:Nat} {listed:Array Bool} {a:Act} {w:World} (hi:ops[i]?=some oi) (hd:oi.dst=d) (hS:S w)
  (h:AnyX P md ops Q S L fuel (listed.setIfInBounds i true) (a.put d v) w)
  (hy:∀w,S w->(execOp a.eval oi).run P w=.ok (.value v) w:=by (intro w hSw;(try dsimp only at hSw);go_simp;try with_reducible rfl))
  (hs:Region.noSelect ops=true:=by kernel_rfl) (hf:Region.free md ops listed i=true:=by kernel_rfl) (hr:(Region.ready md ops listed).contains i=true:=by kernel_rfl) (hw:waitsB md ops L i=true:=by kernel_rfl)
  (hQ:∀c a w,Q (.panic c) (a.put d v) w->Q (.panic c) a w:=by exact λ_ _ _ h=>h) (hg:Region.wanted oi (yielded ops a.tmps)=true:=by first|kernel_rfl|rfl):AnyX P md ops Q S L (fuel+1) listed a w:=by
 subst hd;exact G3 hi hs hf hr hw hQ hg hS hy h
end Go.Proofs.YtebfdccbmmpceaaGreatDoor
namespace Go.Proofs.YtebfdccbmmpceaaGreatDoor
open Go.RowKit
theorem HP.cell {w:World} {base g n cap k j:Nat} {h:House} {tv bv dv u:Value} {x z:Rb} (H:HP w base h tv bv (.slice (some ⟨g,0,none⟩) n cap) dv) (hx:h.bs[k]?=some x) (hj:j<6) (hz:∀ru su:Value,rowR (z,ru,su)=(rowR (x,ru,su)).set j u) (h1:z.ps=x.ps) (h2:z.sl=x.sl) (h3:z.nm=x.nm) :
  HP (w.setCell ⟨g,k*6+j,none⟩ u) base {h with bs:=h.bs.set k z} tv bv (.slice (some ⟨g,0,none⟩) n cap) dv:=by
 obtain⟨ps,hp,hm⟩:=H.x;have hx':=hx;rw[← hm,B0,B5] at hx';obtain⟨⟨y,ru,su⟩,hq,e⟩:=hx';obtain rfl:y=x:=e;have hg:w.grownBy (w.setCell ⟨g,k*6+j,none⟩ u) (Value.slice (some ⟨g,0,none⟩) n cap).ownBlock:=E0 (E4 _ _) _;have e1:(ps.set k (z,ru,su)).map (·.2.1)=ps.map (·.2.1):=by rw[List.map_set];exact AcE (by rw[B0,hq];rfl)
 have e2:(ps.set k (z,ru,su)).map (·.2.2)=ps.map (·.2.2):=by rw[List.map_set];exact AcE (by rw[B0,hq];rfl)
 refine⟨H.k.step hp.1.1 (by decide) (by decide) hg,H.z,⟨_,⟨hp.1.put (y:=z) hq hj (hz _ _) h1 h2 h3,?_,?_⟩,by rw[List.map_set,hm]⟩,⟨E2 H.d.1 hg (E5 H.d.1 hp.1.1 (by decide)),H.d.2⟩⟩
 ·rw[e1];exact hp.2.1
 ·rw[e2];exact hp.2.2
theorem HP.at {w:World} {base k:Nat} {h:House} {tv bv dv:Value} {a:Option Addr} {n cap:Nat} {x:Rb} (H:HP w base h tv bv (.slice a n cap) dv) (hx:h.bs[k]?=some x) :
  ∃g g3 n3 m3 g4 n4 m4,a=some ⟨g,0,none⟩/\n=h.bs.length/\k<n/\(w.cell? ⟨g,k*6,none⟩=some (.string x.nm)/\w.cell? ⟨g,k*6+1,none⟩=some (.slice (some ⟨g3,0,none⟩) n3 m3)/\w.cell? ⟨g,k*6+2,none⟩=some (.slice (some ⟨g4,0,none⟩) n4 m4)/\w.cell? ⟨g,k*6+3,none⟩=some (.string x.ad)/\w.cell? ⟨g,k*6+4,none⟩=some (.int .i64 x.si)/\w.cell? ⟨g,k*6+5,none⟩=some (.int .i64 x.st))/\(∀j,w.frozen? ⟨g,j,none⟩=false)/\RbV w x (.slice (some ⟨g3,0,none⟩) n3 m3) (.slice (some ⟨g4,0,none⟩) n4 m4)/\base<=g/\g<w.heap.size/\∃xs,w.ownsRow base 52 6 (.slice (some ⟨g,0,none⟩) n cap) n xs:=by
 obtain⟨ps,hp,hm⟩:=H.x;have hpl:ps.length=h.bs.length:=by rw[← hm,B4]
 have hk:k<h.bs.length:=(A2.1 hx).1;have hrow:=hp.1.1;obtain⟨g,cap',eg⟩:=F4 hrow (by omega);simp only[Value.slice.injEq] at eg;obtain⟨rfl,rfl,rfl⟩:=eg;have hx':=hx;rw[← hm,B0,B5] at hx';obtain⟨⟨y,ru,su⟩,hq,e⟩:=hx';obtain rfl:y=x:=e;have hrc:=hp.1.2 _ (A6 hq);obtain⟨g3,n3,m3,e3⟩:NN ru:=hrc.nr;obtain⟨g4,n4,m4,e4⟩:NN su:=hrc.ns;subst e3 e4;have hcl:=G8 G6 hrow hq;exact⟨g,g3,n3,m3,g4,n4,m4,rfl,hpl,by omega,⟨hcl 0 _ rfl,hcl 1 _ rfl,hcl 2 _ rfl,hcl 3 _ rfl,hcl 4 _ rfl,hcl 5 _ rfl⟩,hrow.frozenAt,hrc.v,(hrow.lt g rfl).1,(hrow.lt g rfl).2,_,hrow⟩
theorem AlO {h:House} {k:Nat} {x:Rb} (hx:h.bs[k]?=some x) (nm:ByteArray):onH h k nm=if endN nm=0 then {h with sh:=lsnB h.sh x.nm (thE x.sl (slE x.ps nm)),bs:=h.bs.set k {x with ad:=nm,si:=-1}} else {h with sh:=leaveB h.sh x.nm,bs:=h.bs.take k++h.bs.drop (k+1),ds:=cut20 (h.ds++[⟨x.nm,endN nm,h.now⟩])}:=by unfold onH;rw[hx]
theorem Anc (h:House) (y k:Nat) (x:Rb) (nm:ByteArray) (w0 w:World) (hB0:Below w0.heap.size w0 w) (hE:Ends w0) (hT:ErrT w0) (H:PH w w0.heap.size y h) (hx:h.bs[k]?=some x) (hnb:h.bs.length<=1000) (hnd:h.ds.length<=1000) (hth:endN nm=0->rbThings {x with ad:=nm,si:=-1} nm=thE x.sl (slE x.ps nm)) :
  Calls Tryz.prog 57 #[.pointer (some ⟨y,0,none⟩),.int .i64 k,.string nm] w λe w'=>e=.returned (.tuple #[])/\PH w' w0.heap.size y (onH h k nm)/\Below w0.heap.size w0 w':=by
 have hEw:=hE.up hB0;by_cases h0:endN nm=0
 case neg =>
  have HO:Hid (onH h k nm={h with sh:=leaveB h.sh x.nm,bs:=h.bs.take k++h.bs.drop (k+1),ds:=cut20 (h.ds++[⟨x.nm,endN nm,h.now⟩])}):=by show _=_;rw[AlO hx,if_neg h0]
  have h0':(endN nm != 0)=true:=by simpa using h0
  have hc:=Akc h y k x (endN nm) w0 w hB0 hT H hx hnb hnd;have hr:=L9 nm w hEw;generalize endN nm=en at *;clear H h0 hth;go_enter Tryz.func57,Tryz.ntmps57
  go_wp2_with (first
   | (go_at_call 107;refine hr.mono ?_;rintro e w' ⟨rfl,hw⟩;obtain rfl:=hw.symm;clear hw)
   | (go_at_call 108;refine hc.mono ?_;rintro e w2 ⟨rfl,H2,hB2⟩))
  (try simp only[Exit.inBlock,Exit.then])
  refine bodyPost_ret (results_none rfl _ _ _) rfl ?_;exact⟨rfl,by rw[HO.out];exact H2,hB2⟩
 case pos =>
  have hr:=L9 nm w hEw;rw[h0] at hr;obtain⟨tv,bv,xv,dv,kA,HH⟩:=H;obtain⟨a1,c1,a2,c2,a3,c3,a4,c4,rfl,rfl,rfl,rfl⟩:=HH.v.shapes;obtain⟨g,g3,n3,m3,g4,n4,m4,rfl,-,hk,⟨-,-,-,q3,q4,-⟩,hfz,hv,-,-,xs,hrow⟩:=HH.at hx;have ho:onH h k nm={h with sh:=lsnB h.sh x.nm (rbThings ({x with ad:=nm,si:=-1}:Rb) nm),bs:=h.bs.set k ({x with ad:=nm,si:=-1}:Rb)}:=by rw[AlO hx,if_pos h0,hth h0]
  generalize onH h k nm=hN at ho ⊢
  have HO:Hid (hN={h with sh:=lsnB h.sh x.nm (rbThings ({x with ad:=nm,si:=-1}:Rb) nm),bs:=h.bs.set k ({x with ad:=nm,si:=-1}:Rb)}):=ho;clear ho;have hv2:RbV w ({x with ad:=nm,si:=-1}:Rb) (.slice (some ⟨g3,0,none⟩) n3 m3) (.slice (some ⟨g4,0,none⟩) n4 m4):=⟨hv.r,hv.s,hv.zp,hv.zs,hv.zn,hv.np,hv.ns⟩;have Hsz:Hid (∀s∈rbThings ({x with ad:=nm,si:=-1}:Rb) nm,s.size<=maxLen):=Aaz hv2 nm;have Hz:Hid (Szb (lsnB h.sh x.nm (rbThings ({x with ad:=nm,si:=-1}:Rb) nm))):=Anb HH.z Hsz.out;have hx1:(h.bs.set k {x with ad:=nm})[k]?=some {x with ad:=nm}:=by rw[D0 (by omega)]
  have hx2:(h.bs.set k ({x with ad:=nm,si:=-1}:Rb))[k]?=some ({x with ad:=nm,si:=-1}:Rb):=by rw[D0 (by omega)]
  have hg1:w.grownBy (w.setCell ⟨g,k*6+3,none⟩ (.string nm)) (some g):=E0 (E4 _ _) _;have hg2:w.grownBy ((w.setCell ⟨g,k*6+3,none⟩ (.string nm)).setCell ⟨g,k*6+4,none⟩ (.int .i64 (-1))) (some g):=E0 hg1 _;have HHa:=(HH.cell (z:={x with ad:=nm}) hx (j:=3) (u:=.string nm) (by omega) (λ_ _=>rfl) rfl rfl rfl).cell (z:=({x with ad:=nm,si:=-1}:Rb)) hx1 (j:=4) (u:=.int .i64 (-1)) (by omega) (λ_ _=>rfl) rfl rfl rfl;have ess:(h.bs.set k ({x with ad:=nm}:Rb)).set k ({x with ad:=nm,si:=-1}:Rb)=h.bs.set k ({x with ad:=nm,si:=-1}:Rb):=List.set_set _
  have HHb:HP ((w.setCell ⟨g,k*6+3,none⟩ (.string nm)).setCell ⟨g,k*6+4,none⟩ (.int .i64 (-1))) w0.heap.size {h with bs:=h.bs.set k ({x with ad:=nm,si:=-1}:Rb)} (.slice a1 h.sh.things.length c1) (.slice a2 h.sh.bs.length c2) (.slice (some ⟨g,0,none⟩) h.bs.length c3) (.slice a4 h.ds.length c4):=by
   have:=HHa;dsimp only at this
   rw[ess] at this;exact this
  have kAb:=E2 kA (show w.grownBy _ (Value.slice (some ⟨g,0,none⟩) h.bs.length c3).ownBlock from hg2) (E5 kA hrow (by decide));have hBb:=F1 hB0 hB0.size hrow (show w.grownBy _ (Value.slice (some ⟨g,0,none⟩) h.bs.length c3).ownBlock from hg2) (A3 _);obtain⟨-,-,-,-,e4,-⟩:=(D9 kA).c6;have f3:=hfz (k*6+3);have f4:=hfz (k*6+4);clear hth h0 hnb hnd hv hv2 HHa ess hg1 hg2 hfz hrow hx1 hx;go_enter Tryz.func57,Tryz.ntmps57
  go_upto_region 5 with (go_at_call 107;refine hr.mono ?_;rintro e w' ⟨rfl,hw⟩;obtain rfl:=hw.symm;clear hw)
  clear q3 q4 f3 f4 e4 hr kA HH hB0 hEw;generalize (w.setCell ⟨g,k*6+3,none⟩ (.string nm)).setCell ⟨g,k*6+4,none⟩ (.int .i64 (-1))=W1 at *;clear g3 n3 m3 g4 n4 m4 xs;obtain⟨g',g3,n3,m3,g4,n4,m4,eg,-,-,⟨q0,q1,q2,q3,q4,q5⟩,-,hvb,-,hgl,xs,hrow⟩:=HHb.at hx2;obtain rfl:g=g':=by simpa using eg
  have hgy:g≠y:=λe=>by
   have:=E5 hrow kAb (by decide) g rfl;exact this (by rw[e];rfl)
  have hbd:Below W1.heap.size W1 W1.drew:=(A4 _ _).drew;have HH1:=HHb.up hbd;have kA1:=E1 kAb hbd;have hB1:=D6 hBb hbd;have hv1:=hvb.up hbd;have hE1:=hE.up hB1;have hT1:=hT.up hB1;have hS1:World.cell? W1.drew ⟨g,k*6,none⟩=some (.string x.nm)/\World.cell? W1.drew ⟨g,k*6+1,none⟩=some (.slice (some ⟨g3,0,none⟩) n3 m3)/\World.cell? W1.drew ⟨g,k*6+2,none⟩=some (.slice (some ⟨g4,0,none⟩) n4 m4)/\World.cell? W1.drew ⟨g,k*6+3,none⟩=some (.string nm)/\World.cell? W1.drew ⟨g,k*6+4,none⟩=some (.int .i64 (-1))/\World.cell? W1.drew ⟨g,k*6+5,none⟩=some (.int .i64 x.st):=⟨q0,q1,q2,q3,q4,q5⟩;have hgl1:g<W1.drew.heap.size:=hgl;refine F5 99 (λw'=>World.cell? w' ⟨g,k*6,none⟩=some (.string x.nm)/\World.cell? w' ⟨g,k*6+1,none⟩=some (.slice (some ⟨g3,0,none⟩) n3 m3)/\World.cell? w' ⟨g,k*6+2,none⟩=some (.slice (some ⟨g4,0,none⟩) n4 m4)/\World.cell? w' ⟨g,k*6+3,none⟩=some (.string nm)/\World.cell? w' ⟨g,k*6+4,none⟩=some (.int .i64 (-1))/\World.cell? w' ⟨g,k*6+5,none⟩=some (.int .i64 x.st)) (by kernel_rfl) ?_;clear q0 q1 q2 q3 q4 q5 eg hgl;generalize W1.drew=X1 at HH1 kA1 hB1 hv1 hE1 hT1 hS1 hgl1 ⊢
  clear HHb kAb hBb hbd hvb hrow;have Up:Hid (∀w',Below X1.heap.size X1 w'->World.cell? w' ⟨g,k*6,none⟩=some (.string x.nm)/\World.cell? w' ⟨g,k*6+1,none⟩=some (.slice (some ⟨g3,0,none⟩) n3 m3)/\World.cell? w' ⟨g,k*6+2,none⟩=some (.slice (some ⟨g4,0,none⟩) n4 m4)/\World.cell? w' ⟨g,k*6+3,none⟩=some (.string nm)/\World.cell? w' ⟨g,k*6+4,none⟩=some (.int .i64 (-1))/\World.cell? w' ⟨g,k*6+5,none⟩=some (.int .i64 x.st)):=λw' hb=>⟨(hb.cell (p:=⟨g,k*6,none⟩) hgl1).trans hS1.1,(hb.cell (p:=⟨g,k*6+1,none⟩) hgl1).trans hS1.2.1,(hb.cell (p:=⟨g,k*6+2,none⟩) hgl1).trans hS1.2.2.1,(hb.cell (p:=⟨g,k*6+3,none⟩) hgl1).trans hS1.2.2.2.1,(hb.cell (p:=⟨g,k*6+4,none⟩) hgl1).trans hS1.2.2.2.2.1,(hb.cell (p:=⟨g,k*6+5,none⟩) hgl1).trans hS1.2.2.2.2.2⟩
  have Kp:Hid (∀(A B:World),(World.cell? A ⟨g,k*6,none⟩=some (.string x.nm)/\World.cell? A ⟨g,k*6+1,none⟩=some (.slice (some ⟨g3,0,none⟩) n3 m3)/\World.cell? A ⟨g,k*6+2,none⟩=some (.slice (some ⟨g4,0,none⟩) n4 m4)/\World.cell? A ⟨g,k*6+3,none⟩=some (.string nm)/\World.cell? A ⟨g,k*6+4,none⟩=some (.int .i64 (-1))/\World.cell? A ⟨g,k*6+5,none⟩=some (.int .i64 x.st))->A.grownBy B (Value.slice (some ⟨y,0,none⟩) 1 1).ownBlock->World.cell? B ⟨g,k*6,none⟩=some (.string x.nm)/\World.cell? B ⟨g,k*6+1,none⟩=some (.slice (some ⟨g3,0,none⟩) n3 m3)/\World.cell? B ⟨g,k*6+2,none⟩=some (.slice (some ⟨g4,0,none⟩) n4 m4)/\World.cell? B ⟨g,k*6+3,none⟩=some (.string nm)/\World.cell? B ⟨g,k*6+4,none⟩=some (.int .i64 (-1))/\World.cell? B ⟨g,k*6+5,none⟩=some (.int .i64 x.st)):=λA B hs hg=>by
   have hn:some g≠(Value.slice (some ⟨y,0,none⟩) 1 1).ownBlock:=λe=>hgy (by simpa [Value.ownBlock] using e);exact⟨hg.cell hs.1 hn,hg.cell hs.2.1 hn,hg.cell hs.2.2.1 hn,hg.cell hs.2.2.2.1 hn,hg.cell hs.2.2.2.2.1 hn,hg.cell hs.2.2.2.2.2 hn⟩
  refine tkd 0 (some 30) rfl rfl hS1 ?_;refine tkd 1 (some 31) rfl rfl hS1 ?_;refine tkd 2 (some 32) rfl rfl hS1 ?_;refine tkd 3 (some 33) rfl rfl hS1 ?_;refine tkd 5 (some 35) rfl rfl hS1 ?_;refine tkd 6 (some 36) rfl rfl hS1 ?_;refine tkd 7 (some 37) rfl rfl hS1 ?_;refine tkd 8 (some 38) rfl rfl hS1 ?_;refine tkd 9 (some 39) rfl rfl hS1 ?_;refine tkd 10 (some 40) rfl rfl hS1 ?_;refine tkd 11 (some 41) rfl rfl hS1 ?_;refine tkd 12 (some 42) rfl rfl hS1 ?_;obtain⟨-,-,e2,e3,-,-⟩:=(D9 kA1).c6;refine L2 (i:=4) (j:=13) (by kernel_rfl) rfl rfl (λK hK=>?_) (λK hK=>?_)
  ·(go_simp;clear e2 e3;refine hK.out _ _ (λ_=>hS1) ?_;clear hK K)
   refine D8 (i:=13) (by kernel_rfl) rfl (λK hK=>?_)
   (go_simp;go_wp2_with (go_at_call 110;refine (AbL ({x with ad:=nm,si:=-1}:Rb) _ _ nm X1 hE1 hv1).mono ?_;rintro e Y1 ⟨⟨u1,rfl,hO⟩,hb1⟩;have hL1:=hO.lst;obtain⟨a9,c9,rfl⟩:=hL1.shape;clear hO);have HH2:=HH1.up hb1;have kA2:=E1 kA1 hb1;have hB2:=D6 hB1 hb1;have hT2:=hT1.up hb1;have hS2:=Up.out _ hb1;refine hK.out _ _ (λ_=>hS2) ?_;clear hK K)
   (refine D8 (i:=14) (by kernel_rfl) rfl (λK hK=>?_);go_simp;go_wp2_with (go_at_call 109;refine (Af6 h.sh _ x.nm _ (rbThings ({x with ad:=nm,si:=-1}:Rb) nm) Y1 (HH2.k.bk HH2.z) (hL1.ls Hsz.out) hT2).mono ?_;rintro e Y2 ⟨⟨u2,rfl,hbk⟩,hb2⟩);obtain⟨t1,d1,t2,d2,rfl⟩:=hbk.shape;have HH3:=HH2.up hb2;have kA3:=E1 kA2 hb2;have hB3:=D6 hB2 hb2;have hbk3:=hbk.low hB2.size;have hS3:=Up.out _ (D6 hb1 hb2);refine hK.out _ _ (λ_=>hS3) ?_;clear hK K;(refine tkd 15 (some 29) rfl rfl hS3 ?_);(refine tkd 16 (some 45) rfl rfl hS3 ?_);(refine tkd 17 (some 46) rfl rfl hS3 ?_);(refine tkd 18 (some 47) rfl rfl hS3 ?_);(refine tkd 19 (some 48) rfl rfl hS3 ?_);obtain⟨b',hb'⟩:∃b',lsnB h.sh x.nm (rbThings ({x with ad:=nm,si:=-1}:Rb) nm)=b':=⟨_,rfl⟩;rw[hb'] at hbk3 Hz;obtain⟨-,-,e2,e3,-,-⟩:=(D9 kA3).c6;obtain⟨-,-,f2,f3,-,-⟩:=(D9 kA3).f6;have b1:=J6 (j:=2) kA3 (.slice t1 b'.things.length d1);have b2:=J6 (j:=3) b1.1 (.slice t2 b'.bs.length d2);have hg2:Y2.grownBy ((Y2.setCell ⟨y,2,none⟩ (.slice t1 b'.things.length d1)).setCell ⟨y,3,none⟩ (.slice t2 b'.bs.length d2)) (Value.slice (some ⟨y,0,none⟩) 1 1).ownBlock:=E3 b1.2 b2.2;have HH4:=(HH3.box kA3 hg2).share (hbk3.step kA3 (by decide) (by decide) hg2) Hz.out;have hB4:=F1 hB3 hB3.size kA3 hg2 (A3 _);have kA4:=b2.1;have hS4:=Kp.out _ _ hS3 hg2;clear b1 b2 hg2 HH3 hbk3 hB3 hb1 hb2;refine D8 (i:=20) (by kernel_rfl) rfl (λK hK=>?_);go_simp;refine hK.out _ _ (λ_=>hS4) ?_;clear hK K;refine F0 (by kernel_rfl) ?_ _;clear e2 e3 f2 f3 kA3 hS3 hS4;go_wp2_with fail;go_end0;exact⟨rfl,by rw[HO.out,hb'];exact⟨_,_,_,_,kA4,HH4⟩,hB4⟩)
  ·(go_simp;go_wp2_with (go_at_call 110;refine (AbL ({x with ad:=nm,si:=-1}:Rb) _ _ nm X1 hE1 hv1).mono ?_;rintro e Y1 ⟨⟨u1,rfl,hO⟩,hb1⟩;have hL1:=hO.lst;obtain⟨a9,c9,rfl⟩:=hL1.shape;clear hO);have HH2:=HH1.up hb1;have kA2:=E1 kA1 hb1;have hB2:=D6 hB1 hb1;have hT2:=hT1.up hb1;have hS2:=Up.out _ hb1;refine hK.out _ _ (λ_=>hS2) ?_;clear hK K)
   clear e2 e3;obtain⟨-,-,e2,e3,-,-⟩:=(D9 kA2).c6;refine D8 (i:=4) (by kernel_rfl) rfl (λK hK=>?_)
   (go_simp;clear e2 e3;refine hK.out _ _ (λ_=>hS2) ?_;clear hK K)
   (refine D8 (i:=14) (by kernel_rfl) rfl (λK hK=>?_);go_simp;go_wp2_with (go_at_call 109;refine (Af6 h.sh _ x.nm _ (rbThings ({x with ad:=nm,si:=-1}:Rb) nm) Y1 (HH2.k.bk HH2.z) (hL1.ls Hsz.out) hT2).mono ?_;rintro e Y2 ⟨⟨u2,rfl,hbk⟩,hb2⟩);obtain⟨t1,d1,t2,d2,rfl⟩:=hbk.shape;have HH3:=HH2.up hb2;have kA3:=E1 kA2 hb2;have hB3:=D6 hB2 hb2;have hbk3:=hbk.low hB2.size;have hS3:=Up.out _ (D6 hb1 hb2);refine hK.out _ _ (λ_=>hS3) ?_;clear hK K;(refine tkd 15 (some 29) rfl rfl hS3 ?_);(refine tkd 16 (some 45) rfl rfl hS3 ?_);(refine tkd 17 (some 46) rfl rfl hS3 ?_);(refine tkd 18 (some 47) rfl rfl hS3 ?_);(refine tkd 19 (some 48) rfl rfl hS3 ?_);obtain⟨b',hb'⟩:∃b',lsnB h.sh x.nm (rbThings ({x with ad:=nm,si:=-1}:Rb) nm)=b':=⟨_,rfl⟩;rw[hb'] at hbk3 Hz;obtain⟨-,-,e2,e3,-,-⟩:=(D9 kA3).c6;obtain⟨-,-,f2,f3,-,-⟩:=(D9 kA3).f6;have b1:=J6 (j:=2) kA3 (.slice t1 b'.things.length d1);have b2:=J6 (j:=3) b1.1 (.slice t2 b'.bs.length d2);have hg2:Y2.grownBy ((Y2.setCell ⟨y,2,none⟩ (.slice t1 b'.things.length d1)).setCell ⟨y,3,none⟩ (.slice t2 b'.bs.length d2)) (Value.slice (some ⟨y,0,none⟩) 1 1).ownBlock:=E3 b1.2 b2.2;have HH4:=(HH3.box kA3 hg2).share (hbk3.step kA3 (by decide) (by decide) hg2) Hz.out;have hB4:=F1 hB3 hB3.size kA3 hg2 (A3 _);have kA4:=b2.1;have hS4:=Kp.out _ _ hS3 hg2;clear b1 b2 hg2 HH3 hbk3 hB3 hb1 hb2;refine D8 (i:=20) (by kernel_rfl) rfl (λK hK=>?_);go_simp;refine hK.out _ _ (λ_=>hS4) ?_;clear hK K;refine F0 (by kernel_rfl) ?_ _;clear e2 e3 f2 f3 kA3 hS3 hS4;go_wp2_with fail;go_end0;exact⟨rfl,by rw[HO.out,hb'];exact⟨_,_,_,_,kA4,HH4⟩,hB4⟩)
theorem AlP {ps:List Ph} (h:recB ps=true):∀p∈ps,1<=p.wi/\p.wi<=1000:=by
 obtain⟨_,_,ha⟩:=(J8 ps).1 h;intro p hp;obtain⟨i,hi,rfl⟩:=B6 hp;have hs:=ha i ps[i] hi (by simp[hi]);simp only[stepI,Bool.and_eq_true,Ph.okB,phaseB,inB,decide_eq_true_eq] at hs;exact hs.1.1.1.1.1.1.2
theorem Aoq {x:Rb} (h:RbOk x) {nm:ByteArray} (hn:nm=(phOf x.ps x.ad).e∨nm=(phOf x.ps x.ad).t) (h0:endN nm=0) (s:Int):RbOk {{x with si:=s} with ad:=nm,si:=-1}:=by
 obtain⟨k,hk,ha⟩:=Z8 h.2.2.2.2.1;rw[Z6 hk ha] at hn;obtain⟨g1,g2⟩:=AeW h.2.1 hk
 have hg:goesB (x.ps.drop (k+1)) nm=true:=by
  rcases hn with rfl|rfl
  ·exact g2
  ·exact g1
 have hh:hasB x.ps nm=true:=by
  simp only[goesB,Bool.or_eq_true,bne_iff_ne] at hg;rcases hg with hg|hg
  ·exact absurd h0 hg
  ·obtain⟨j,q,-,hq,he⟩:=(U0 _ _ _).1 hg
   exact (T9 _ _).2 ⟨j,q,hq,he⟩
 refine⟨h.1,h.2.1,h.2.2.1,h.2.2.2.1,hh,by show (-1:Int)<=-1;omega,?_⟩;have:=(AlP h.2.1 _ (Abh hh)).1;show (-1:Int)<(phOf x.ps nm).wi
 omega
theorem Aik {x:Rb} (h:RbOk x) {nm:ByteArray} (hn:nm=(phOf x.ps x.ad).e∨nm=(phOf x.ps x.ad).t) (h0:endN nm=0) (s:Int):rbThings {{x with si:=s} with ad:=nm,si:=-1} nm=thE x.sl (slE x.ps nm):=Aa1 (Aoq h hn h0 s) nm
theorem AlQ {h:House} {k:Nat} {x:Rb} (hx:h.bs[k]?=some x):goT h k=if 0<=x.si then (if x.si+1=(phOf x.ps x.ad).wi then onH {h with bs:=h.bs.set k {x with si:=x.si+1}} k (phOf x.ps x.ad).e else {h with bs:=h.bs.set k {x with si:=x.si+1}}) else h:=by unfold goT;rw[hx]
theorem Ane {l:List Done} (h:l.length<=21):(cut20 l).length<=20:=by
 unfold cut20;split
 ·rw[A8];omega
 ·omega
theorem AlR {h:House} {k:Nat} (nm:ByteArray) (hd:h.ds.length<=20) (hs:∀x∈h.bs,-1<=x.si):(onH h k nm).now=h.now/\(onH h k nm).last=h.last/\(onH h k nm).ds.length<=20/\(onH h k nm).bs.length<=h.bs.length/\∀x∈(onH h k nm).bs,-1<=x.si:=by
 unfold onH;split
 ·exact⟨rfl,rfl,hd,A3 _,hs⟩
 ·rename_i x hx
  split
  ·refine⟨rfl,rfl,hd,by simp,λy hy=>?_⟩
   rcases List.mem_or_eq_of_mem_set hy with h1|rfl
   ·exact hs y h1
   ·show (-1:Int)<=-1;omega
  ·refine⟨rfl,rfl,Ane (by rw[A9,List.length_singleton];omega),?_,λy hy=>?_⟩
   ·show (h.bs.take k++h.bs.drop (k+1)).length<=_
    rw[A9,B7,A8];omega
   ·rcases D1.1 hy with h1|h1
    ·exact hs y (List.mem_of_mem_take h1)
    ·exact hs y (List.mem_of_mem_drop h1)
theorem Af7 {h:House} (k:Nat) (hd:h.ds.length<=20) (hs:∀x∈h.bs,-1<=x.si):(goT h k).now=h.now/\(goT h k).last=h.last/\(goT h k).ds.length<=20/\(goT h k).bs.length<=h.bs.length/\∀x∈(goT h k).bs,-1<=x.si:=by
 unfold goT;split
 ·exact⟨rfl,rfl,hd,A3 _,hs⟩
 ·rename_i x hx
  have hset:∀y∈h.bs.set k {x with si:=x.si+1},-1<=y.si:=λy hy=>by
   rcases List.mem_or_eq_of_mem_set hy with h1|rfl
   ·exact hs y h1
   ·have:=hs x (A6 hx)
    show -1<=x.si+1;omega
  split
  ·split
   ·obtain⟨a1,a2,a3,a4,a5⟩:=AlR (h:={h with bs:=h.bs.set k {x with si:=x.si+1}}) (k:=k) (phOf x.ps x.ad).e hd hset
    exact⟨a1,a2,a3,B1 a4 (by simp),a5⟩
   ·exact⟨rfl,rfl,hd,by simp,hset⟩
  ·exact⟨rfl,rfl,hd,A3 _,hs⟩
theorem Ahh (p:Ph) (w:World):Calls Tryz.prog 58 #[.agg #[.string p.nm,.int .i64 p.k,.string p.a,.string p.b,.int .i64 p.n,.int .i64 p.wi,.string p.t,.string p.e],.bool false] w λe w'=>e=.returned (.string p.e)/\Below w.heap.size w w':=by
 obtain⟨W1,hW1,k1,hB1,-⟩:=K9 w [.string p.nm,.int .i64 p.k,.string p.a,.string p.b,.int .i64 p.n,.int .i64 p.wi,.string p.t,.string p.e] 84;go_enter Tryz.func58,Tryz.ntmps58
 go_upto_region 1 with fail
 try rw[hW1]
 clear hW1;obtain⟨⟨c0,c1,c2,c3,c4,c5,c6,c7⟩,-⟩:=k1.c8;go_wp2_with fail
 go_ret
 exact⟨rfl,hB1⟩
theorem Ail (h:House) (y:Nat) (w0 w:World) (hB0:Below w0.heap.size w0 w) (hE:Ends w0) (hT:ErrT w0) (H:PH w w0.heap.size y h) (hok:∀x∈h.bs,RbOk x) (hnb:h.bs.length<=1000) (hnd:h.ds.length<=20) (hn0:0<=h.now) (hn1:¬h.now=100000) (hn2:h.now<=100000) :
  Calls Tryz.prog 22 #[.pointer (some ⟨y,0,none⟩)] w λe w'=>e=.returned .nilIface/\PH w' w0.heap.size y (asksH (goTo {h with now:=h.now+1} h.bs.length) (goTo {h with now:=h.now+1} h.bs.length).bs.length)/\Below w0.heap.size w0 w':=by
 obtain⟨tv,bv,xv,dv,kA,HH⟩:=H;obtain⟨a1,c1,a2,c2,a3,c3,a4,c4,rfl,rfl,rfl,rfl⟩:=HH.v.shapes;generalize hR:goTo {h with now:=h.now+1} h.bs.length=hF;have hn1':(h.now==100000)=false:=by simpa using hn1
 have b1:=J6 (j:=0) kA (.int .i64 (h.now+1));have HHa:=HH.box kA b1.2;have HHb:HP (w.setCell ⟨y,0,none⟩ (.int .i64 (h.now+1))) w0.heap.size {h with now:=h.now+1} (.slice a1 h.sh.things.length c1) (.slice a2 h.sh.bs.length c2) (.slice a3 h.bs.length c3) (.slice a4 h.ds.length c4):=⟨HHa.k,HHa.z,HHa.x,HHa.d⟩;have hBb:=F1 hB0 hB0.size kA b1.2 (A3 _);have kAb:(w.setCell ⟨y,0,none⟩ (.int .i64 (h.now+1))).ownsRow w0.heap.size 37 6 (.slice (some ⟨y,0,none⟩) 1 1) 1 [.int .i64 (h.now+1),.int .i64 h.last,.slice a1 h.sh.things.length c1,.slice a2 h.sh.bs.length c2,.slice a3 h.bs.length c3,.slice a4 h.ds.length c4]:=b1.1;obtain⟨e0,-,-,-,e4,-⟩:=(D9 kA).c6;obtain⟨f0,-,-,-,-,-⟩:=(D9 kA).f6;obtain⟨-,-,-,-,e4',-⟩:=(D9 kAb).c6;go_enter_defers Tryz.func22,Tryz.ntmps22
 go_upto_region 6 with fail
 clear e0 e4 f0 e4' b1 HHa HH kA hB0;generalize w.setCell ⟨y,0,none⟩ (.int .i64 (h.now+1))=W1 at *;have Hok:Hid (∀x∈h.bs,RbOk x):=hok;have HR:Hid (goTo {h with now:=h.now+1} h.bs.length=hF):=hR;clear hok hR hn1 hn1';go_loopw [3] (λi w'=>∃(k:Nat) (hc:House),i=.int .i64 ((k:Int)-1)/\k<=hc.bs.length/\hc.bs.length<=1000/\hc.ds.length<=20/\goTo hc k=hF/\hc.bs.take k=h.bs.take k/\PH w' w0.heap.size y hc/\(∀x∈hc.bs,-1<=x.si)/\Below w0.heap.size w0 w') (λi _=>(intOf i+1).toNat)
 case atStart=>exact⟨h.bs.length,{h with now:=h.now+1},rfl,A3 _,hnb,hnd,HR.out,rfl,⟨_,_,_,_,kAb,HHb⟩,λx hx=>(Hok.out x hx).2.2.2.2.2.1,hBb⟩
 case round =>
  clear HHb kAb hBb;obtain⟨k,hc,rfl,hkl,hcl,hcd,hgo,htk,⟨tv,bv,xv,dv,kA,HH⟩,hsi,hB⟩:=hrel;by_cases hp:0<k
  ·obtain⟨m,rfl⟩:∃m,k=m+1:=⟨k-1,by omega⟩
   have hm:m<hc.bs.length:=by omega
   have hx:hc.bs[m]?=some hc.bs[m]:=A0 hm
   have hxok:RbOk hc.bs[m]:=Hok.out _ (by
    have h1:(hc.bs.take (m+1))[m]?=some hc.bs[m]:=by rw[List.getElem?_take,if_pos (by omega)];exact hx
    rw[htk] at h1;exact List.mem_of_mem_take (A6 h1))
   have htk':hc.bs.take m=h.bs.take m:=by
    have:=congrArg (List.take m) htk;rwa [List.take_take,List.take_take,Nat.min_eq_left (by omega)] at this
   have Hgo:Hid (goTo (goT hc m) m=hF):=hgo;have Htk:Hid (hc.bs.take m=h.bs.take m):=htk';have Hst:=Af7 m hcd hsi;have Hst:Hid ((goT hc m).now=hc.now/\(goT hc m).last=hc.last/\(goT hc m).ds.length<=20/\(goT hc m).bs.length<=hc.bs.length/\∀x∈(goT hc m).bs,-1<=x.si):=Hst;have Hsi:Hid (∀x∈hc.bs,-1<=x.si):=hsi;have hsx:=hsi _ (List.getElem_mem hm)
   obtain⟨C,hC⟩:∃C,(goT hc m).bs=hc.bs.take m++C:=by
    obtain⟨A,y',B,hb,rfl⟩:=Aeo hm;obtain⟨C,hC⟩:=Aen hb;exact⟨C,by rw[hC,hb,List.take_left' rfl]⟩
   have HC:Hid (m<=(goT hc m).bs.length/\(goT hc m).bs.take m=hc.bs.take m):=by
    refine⟨by rw[hC,A9,B7];omega,?_⟩;rw[hC,List.take_left' (by rw[B7];omega)]
   clear hgo htk htk' hsi hC C;generalize hc.bs[m]=x at *;obtain⟨b1,d1,b2,d2,b3,d3,b4,d4,rfl,rfl,rfl,rfl⟩:=HH.v.shapes;obtain⟨g,g3,n3,m3,g4,n4,m4,rfl,-,-,⟨q0,q1,q2,q3,q4,q5⟩,hfz,hv,hgb,hgl,xs,hrow⟩:=HH.at hx;obtain⟨-,-,-,-,e4,-⟩:=(D9 kA).c6;have hp':¬((m:Int)<0):=by omega
   by_cases hs0:0<=x.si
   case neg =>
    have hm1:x.si=-1:=by omega
    have HG:Hid (goT hc m=hc):=by show _=_;rw[AlQ hx,if_neg hs0]
    rw[hm1] at q4;go_wp2_with (go_at_call 55;refine (AcD _ _ _ _ _ _ _ _ _ _).mono ?_;rintro e w3 ⟨rfl,hb3⟩)
    go_roundw
    case rel=>exact⟨m,hc,by go_num,by omega,hcl,hcd,by rw[← HG.out];exact HG.out ▸ Hgo.out,Htk.out,⟨_,_,_,_,E1 kA hb3,HH.up hb3⟩,Hsi.out,D6 hB hb3⟩
    case measure=>simp[intOf]
   case pos =>
    have hne:¬x.si=-1:=by omega
    go_upto_region 11 with (go_at_call 55;refine (Ael _ _ _ _ _ _ _ _ _ _ _ hne).mono ?_;rintro e w3 ⟨rfl,hb3⟩)
    have HH3:=HH.up hb3;have kA3:=E1 kA hb3;have hB3:=D6 hB hb3;have hrow3:=E1 hrow hb3;have q4':World.cell? w3 ⟨g,m*6+4,none⟩=some (.int .i64 x.si):=(hb3.cell (p:=⟨g,m*6+4,none⟩) hgl).trans q4;have f4:=hrow3.frozenAt (m*6+4);clear q0 q1 q2 q3 q4 q5 e4 HH kA hB hrow hv hfz hb3 hne;have HH4:=HH3.cell (z:={x with si:=x.si+1}) hx (j:=4) (u:=.int .i64 (x.si+1)) (by omega) (λ_ _=>rfl) rfl rfl rfl;have hg4:w3.grownBy (w3.setCell ⟨g,m*6+4,none⟩ (.int .i64 (x.si+1))) (Value.slice (some ⟨g,0,none⟩) hc.bs.length d3).ownBlock:=(B3 hrow3 _ _).2;have kA4:=E2 kA3 hg4 (E5 kA3 hrow3 (by decide));have hB4:=F1 hB3 hB3.size hrow3 hg4 (A3 _);have hx4:(hc.bs.set m {x with si:=x.si+1})[m]?=some {x with si:=x.si+1}:=by rw[D0 hm]
    have hwl:=(AlP hxok.2.1 _ (Abh hxok.2.2.2.2.1)).2;have hsw:=hxok.2.2.2.2.2.2;have hw1:IntKind.i64.wrap (x.si+1)=x.si+1:=by rw[IntKind.wrap_i64];omega
    go_upto_region 12 with fail
    clear q4' f4 HH3 kA3 hB3 hrow3 hg4 hgl;generalize w3.setCell ⟨g,m*6+4,none⟩ (.int .i64 (x.si+1))=W4 at *;obtain⟨g',i3,o3,p3,i4,o4,p4,eg,-,-,⟨q0,q1,q2,q3,q4,q5⟩,-,hv4,-,hgl4,xs4,hrow4⟩:=HH4.at hx4;obtain rfl:g=g':=by simpa using eg
    obtain⟨rb,ro,rc,er,hrec,hrb,-,-⟩:=hv4.r;obtain⟨sb,so,sc,es,-,-⟩:=hv4.s;simp only[Value.slice.injEq,Option.some.injEq,Addr.mk.injEq,and_true] at er es;obtain⟨⟨rfl,rfl⟩,rfl,rfl⟩:=er;obtain⟨⟨rfl,rfl⟩,rfl,rfl⟩:=es;have hnp:=hv4.np;go_upto_region 13 with (go_at_call 56;refine (Adg {x with si:=x.si+1} _ _ _ _ _ _ W4 hrec hrb hnp).mono ?_;rintro e w5 ⟨⟨p,rfl,hpp⟩,hb5⟩)
    have hph:p=phOf x.ps x.ad:=by
     obtain⟨j,hj,ha⟩:=Z8 hxok.2.2.2.2.1;rw[hpp j hj ha,Z6 hj ha]
    obtain⟨W6,hW6,kP,hb6⟩:∃W6,w5.alloc (.cells #[.string p.nm,.int .i64 p.k,.string p.a,.string p.b,.int .i64 p.n,.int .i64 p.wi,.string p.t,.string p.e] 84)=W6/\CB W6 w5.heap.size p.cells/\Below w5.heap.size w5 W6:=⟨_,rfl,E7 w5 _ _,(A4 _ _).alloc (A3 _) _⟩;try rw[hW6]
    have hb46:=D6 hb5 hb6;have HH6:=HH4.up hb46;have kA6:=E1 kA4 hb46;have hB6:=D6 hB4 hb46;have r4:World.cell? W6 ⟨g,m*6+4,none⟩=some (.int .i64 (x.si+1)):=(hb46.cell (p:=⟨g,m*6+4,none⟩) hgl4).trans q4;obtain⟨⟨k0,k1,k2,k3,k4,k5,k6,k7⟩,-⟩:=kP.c8;clear q0 q1 q2 q3 q4 q5 hW6 HH4 kA4 hB4 hrow4 hb5 hb6 hb46 hv4 hrec hpp eg;have HT:Hid (endN p.e=0->rbThings {{x with si:=x.si+1} with ad:=p.e,si:=-1} p.e=thE x.sl (slE x.ps p.e)):=λe0=>Aik hxok (.inl (by rw[hph])) e0 _;have HG:Hid (goT hc m=if x.si+1=p.wi then onH {hc with bs:=hc.bs.set m {x with si:=x.si+1}} m p.e else {hc with bs:=hc.bs.set m {x with si:=x.si+1}}):=by show _=_;rw[AlQ hx,if_pos hs0,hph]
    clear hph;by_cases hw:x.si+1=p.wi
    ·have hw':(x.si+1==p.wi)=true:=by simpa using hw
     have HG2:Hid (goT hc m=onH {hc with bs:=hc.bs.set m {x with si:=x.si+1}} m p.e):=by show _=_;rw[HG.out,if_pos hw]
     have hcl4:(hc.bs.set m {x with si:=x.si+1}).length<=1000:=by rw[List.length_set];exact hcl
     have hcd4:hc.ds.length<=1000:=by omega
     clear hw;go_quiet (fail)
     clear k0 k1 k2 k3 k4 k5 k6 k7 r4;obtain⟨⟨k0,k1,k2,k3,k4,k5,k6,k7⟩,-⟩:=(kP.up (E8 (A4 W6.heap.size W6) nq) kP.2.2).c8
     go_wp2_with (first
      | (go_at_call 58;refine (Ahh p _).mono ?_;rintro e w7 ⟨rfl,hb7⟩;have hb67:=D6 (E8 (A4 W6.heap.size W6) nq) hb7)
      | (go_at_call 57;refine (Anc {hc with bs:=hc.bs.set m {x with si:=x.si+1}} y m {x with si:=x.si+1} p.e w0 w7 (D6 hB6 hb67) hE hT ⟨_,_,_,_,E1 kA6 hb67,HH6.up hb67⟩ hx4 hcl4 hcd4 HT.out).mono ?_;rintro e w8 ⟨rfl,H8,hB8⟩))
     go_roundw
     case rel=>exact⟨m,goT hc m,by go_num,HC.out.1,B1 Hst.out.2.2.2.1 hcl,Hst.out.2.2.1,Hgo.out,HC.out.2.trans Htk.out,by rw[HG2.out];exact H8,Hst.out.2.2.2.2,hB8⟩
     case measure=>simp[intOf]
    ·have hw':(x.si+1==p.wi)=false:=by simpa using hw
     have HG2:Hid (goT hc m={hc with bs:=hc.bs.set m {x with si:=x.si+1}}):=by show _=_;rw[HG.out,if_neg hw]
     clear hw;go_quiet (fail)
     have hb67:=E8 (A4 W6.heap.size W6) nq;go_wp2_with fail
     go_roundw
     case rel=>exact⟨m,goT hc m,by go_num,HC.out.1,B1 Hst.out.2.2.2.1 hcl,Hst.out.2.2.1,Hgo.out,HC.out.2.trans Htk.out,by rw[HG2.out];exact⟨_,_,_,_,E1 kA6 hb67,HH6.up hb67⟩,Hst.out.2.2.2.2,D6 hB6 hb67⟩
     case measure=>simp[intOf]
  ·obtain rfl:k=0:=by omega
   obtain rfl:hc=hF:=hgo;go_wp2_with fail
   refine leaves_cons (f:=54) (args:=#[.pointer (some ⟨y,0,none⟩)]) (by simp) (by simp[go_sem]) ?_;refine (Aka hc y .returning w0 wr hB hE hT ⟨_,_,_,_,kA,HH⟩ hsi).mono ?_;rintro e u' w2 ⟨rfl,rfl,H2,hB2⟩;exact⟨_,results_tmp rfl _ _ _,rfl,H2,hB2⟩
theorem Ake (h:House) (tv bv xv dv:Value) (w:World) (hE:Ends w) (H:HV w h tv bv xv dv) (hok:BookOk h.sh) (hN:NamesOk h) :
  Calls Tryz.prog 132 #[.agg #[.int .i64 h.now,.int .i64 h.last,tv,bv,xv,dv]] w λe w'=>e=.returned (.bool (pB (NeedTo h h.bs.length)))/\Below w.heap.size w w':=by
 obtain⟨a1,c1,a2,c2,a3,c3,a4,c4,rfl,rfl,rfl,rfl⟩:=H.shapes;obtain⟨hmax,hpos⟩:=H.x.inv rfl;unfold maxLen at hmax;have HK:=H.book;clear H;have HE:Hid (Ends w):=hE;have HM:Hid (BookOk h.sh/\NamesOk h):=⟨hok,hN⟩;clear hE hok hN;have hfd:=AjY;have hB0:=(A4 w.heap.size w).alloc (A3 _) (.cells #[.int .i64 h.now,.int .i64 h.last,.slice a1 h.sh.things.length c1,.slice a2 h.sh.bs.length c2,.slice a3 h.bs.length c3,.slice a4 h.ds.length c4] 37);have hC:CB (w.alloc (.cells #[.int .i64 h.now,.int .i64 h.last,.slice a1 h.sh.things.length c1,.slice a2 h.sh.bs.length c2,.slice a3 h.bs.length c3,.slice a4 h.ds.length c4] 37)) w.heap.size [.int .i64 h.now,.int .i64 h.last,.slice a1 h.sh.things.length c1,.slice a2 h.sh.bs.length c2,.slice a3 h.bs.length c3,.slice a4 h.ds.length c4]:=E7 w _ _;go_enter Tryz.func132,Tryz.ntmps132
 go_upto_region 1 with fail
 generalize w.alloc (.cells #[.int .i64 h.now,.int .i64 h.last,.slice a1 h.sh.things.length c1,.slice a2 h.sh.bs.length c2,.slice a3 h.bs.length c3,.slice a4 h.ds.length c4] 37)=W1 at *;have hlt:=hC.2.2;obtain⟨d0,d1,d2,d3,d4,d5⟩:=hC.c6;go_wp2_with fail
 go_loopw [4,8] (λ_ i w'=>∃k:Nat,k<=h.bs.length/\i=.int .i64 k/\NeedTo h k/\Below W1.heap.size W1 w') (λ_ i _=>h.bs.length-(intOf i).toNat)
 case atStart=>exact⟨0,by omega,rfl,λi b hi=>by omega,A4 _ _⟩
 case round =>
  obtain⟨k,hk,rfl,hinv,hB⟩:=hrel;have HI:Hid (NeedTo h k):=hinv;clear hinv d0 d1 d2 d3 d4 d5;by_cases hp:k<h.bs.length
  ·obtain⟨b,o,ha3,hS,hb⟩:=hpos (by omega)
   subst ha3;have hB01:=D6 hB0 hB;obtain⟨p,q,c,g,r,d,⟨e0,e1,e2,e3,e4,e5⟩,hv⟩:=((hS.at hp).up hB01 hb).open;have NO:Hid (¬(shOf h.sh (h.bs[k]).nm).needs=rbThings h.bs[k] (h.bs[k]).ad->pB (NeedTo h h.bs.length)=false):=λhn=>F3 λt=>hn (t k _ hp (A0 hp));have YES:Hid ((shOf h.sh (h.bs[k]).nm).needs=rbThings h.bs[k] (h.bs[k]).ad->NeedTo h (k+1)):=λhy=>Z7 (P:=λ_ (b:Rb)=>(shOf h.sh b.nm).needs=rbThings b b.ad) HI.out hp hy;have Hmem:Hid ((h.bs[k]).nm∈nms h.sh.bs):=HM.out.2.2.2 _ (List.mem_map.2 ⟨h.bs[k],by simp,rfl⟩);generalize h.bs[k]=x0 at *;clear hS;have hB1:=hB.alloc hB.size (.cells #[.string x0.nm,.slice (some ⟨p,q,none⟩) x0.ps.length c,.slice (some ⟨g,r,none⟩) x0.sl.length d,.string x0.ad,.int .i64 x0.si,.int .i64 x0.st] 52);have hX:CB (wr.alloc (.cells #[.string x0.nm,.slice (some ⟨p,q,none⟩) x0.ps.length c,.slice (some ⟨g,r,none⟩) x0.sl.length d,.string x0.ad,.int .i64 x0.si,.int .i64 x0.st] 52)) wr.heap.size [.string x0.nm,.slice (some ⟨p,q,none⟩) x0.ps.length c,.slice (some ⟨g,r,none⟩) x0.sl.length d,.string x0.ad,.int .i64 x0.si,.int .i64 x0.st]:=E7 wr _ _;have hv2:=hv.up ((A4 wr.heap.size wr).alloc (A3 _) (.cells #[.string x0.nm,.slice (some ⟨p,q,none⟩) x0.ps.length c,.slice (some ⟨g,r,none⟩) x0.sl.length d,.string x0.ad,.int .i64 x0.si,.int .i64 x0.st] 52));go_upto_region 4 with fail
   generalize wr.alloc (.cells #[.string x0.nm,.slice (some ⟨p,q,none⟩) x0.ps.length c,.slice (some ⟨g,r,none⟩) x0.sl.length d,.string x0.ad,.int .i64 x0.si,.int .i64 x0.st] 52)=W2 at *;obtain⟨f0,f1,f2,f3,f4,f5⟩:=hX.c6;obtain⟨d0,d1,d2,d3,d4,d5⟩:=(hC.up hB1 hlt).c6;have hXlt:=hX.2.2;have hqlt:w.heap.size<W2.heap.size:=A1 hlt hB1.size;have hB02:=D6 hB0 hB1;have hS0:Below W2.heap.size W2 W2/\W2.cell? ⟨w.heap.size,0,none⟩=some (.int .i64 h.now)/\W2.cell? ⟨w.heap.size,1,none⟩=some (.int .i64 h.last)/\W2.cell? ⟨w.heap.size,2,none⟩=some (.slice a1 h.sh.things.length c1)/\W2.cell? ⟨w.heap.size,3,none⟩=some (.slice a2 h.sh.bs.length c2)/\W2.cell? ⟨w.heap.size,4,none⟩=some (.slice (some ⟨b,o,none⟩) h.bs.length c3)/\W2.cell? ⟨w.heap.size,5,none⟩=some (.slice a4 h.ds.length c4)/\W2.cell? ⟨wr.heap.size,0,none⟩=some (.string x0.nm)/\W2.cell? ⟨wr.heap.size,1,none⟩=some (.slice (some ⟨p,q,none⟩) x0.ps.length c)/\W2.cell? ⟨wr.heap.size,2,none⟩=some (.slice (some ⟨g,r,none⟩) x0.sl.length d)/\W2.cell? ⟨wr.heap.size,3,none⟩=some (.string x0.ad)/\W2.cell? ⟨wr.heap.size,4,none⟩=some (.int .i64 x0.si)/\W2.cell? ⟨wr.heap.size,5,none⟩=some (.int .i64 x0.st):=⟨A4 _ _,d0,d1,d2,d3,d4,d5,f0,f1,f2,f3,f4,f5⟩;have HSH:Hid (∀W,Below w.heap.size w W->Calls Tryz.prog 161 #[.agg #[.int .i64 h.now,.int .i64 h.last,.slice a1 h.sh.things.length c1,.slice a2 h.sh.bs.length c2,.slice (some ⟨b,o,none⟩) h.bs.length c3,.slice a4 h.ds.length c4],.agg #[.string x0.nm,.slice (some ⟨p,q,none⟩) x0.ps.length c,.slice (some ⟨g,r,none⟩) x0.sl.length d,.string x0.ad,.int .i64 x0.si,.int .i64 x0.st]] W λe w'=>(∃b1 k1 b2 k2,e=.returned (.agg #[.string (shOf h.sh x0.nm).nm,.slice b1 (shOf h.sh x0.nm).has.length k1,.slice b2 (shOf h.sh x0.nm).needs.length k2])/\Ls w' (.slice b1 (shOf h.sh x0.nm).has.length k1) (shOf h.sh x0.nm).has/\Ls w' (.slice b2 (shOf h.sh x0.nm).needs.length k2) (shOf h.sh x0.nm).needs)/\Below W.heap.size W w'):=λW hW=>AdB h x0 a1 a2 (some ⟨b,o,none⟩) a4 c1 c2 c3 c4 p q c g r d W (HK.up hW) HM.out.1 Hmem.out;clear e0 e1 e2 e3 e4 e5 hv d0 d1 d2 d3 d4 d5 f0 f1 f2 f3 f4 f5;have Hsz:Hid (∀s∈rbThings x0 x0.ad,s.size<=maxLen):=Aaz hv2 x0.ad;have Hv:Hid (RbV W2 x0 (.slice (some ⟨p,q,none⟩) x0.ps.length c) (.slice (some ⟨g,r,none⟩) x0.sl.length d)):=hv2;clear hv2;generalize hy:shOf h.sh x0.nm=y at *;go_wp2_with fail
   go_region_held (λw'=>Below W2.heap.size W2 w'/\w'.cell? ⟨w.heap.size,0,none⟩=some (.int .i64 h.now)/\w'.cell? ⟨w.heap.size,1,none⟩=some (.int .i64 h.last)/\w'.cell? ⟨w.heap.size,2,none⟩=some (.slice a1 h.sh.things.length c1)/\w'.cell? ⟨w.heap.size,3,none⟩=some (.slice a2 h.sh.bs.length c2)/\w'.cell? ⟨w.heap.size,4,none⟩=some (.slice (some ⟨b,o,none⟩) h.bs.length c3)/\w'.cell? ⟨w.heap.size,5,none⟩=some (.slice a4 h.ds.length c4)/\w'.cell? ⟨wr.heap.size,0,none⟩=some (.string x0.nm)/\w'.cell? ⟨wr.heap.size,1,none⟩=some (.slice (some ⟨p,q,none⟩) x0.ps.length c)/\w'.cell? ⟨wr.heap.size,2,none⟩=some (.slice (some ⟨g,r,none⟩) x0.sl.length d)/\w'.cell? ⟨wr.heap.size,3,none⟩=some (.string x0.ad)/\w'.cell? ⟨wr.heap.size,4,none⟩=some (.int .i64 x0.si)/\w'.cell? ⟨wr.heap.size,5,none⟩=some (.int .i64 x0.st)) (first|exact Abl hS0|exact Abm hqlt hXlt (by assumption) (by assumption))
    (first
     | (go_at_call 161;refine (HSH.out _ hB02.drew).mono ?_;rintro e w3 ⟨⟨s1,k1,s2,k2,rfl,-,hL3⟩,hb3⟩;have hB3:=D6 hB02.drew hb3;have hv3:=(Hv.out.up (A4 _ _).drew).up hb3)
     | (go_at_call 110;refine (AbL x0 _ _ x0.ad _ (HE.out.up hB3) hv3).mono ?_;rintro e w4 ⟨⟨u4,rfl,hO4⟩,hb4⟩;have hL4:=hL3.up hb4)
     | (go_at_call 160;refine (AjB _ _ _ _ _ hL4 (hO4.lst.ls Hsz.out)).mono ?_;rintro e w5 ⟨rfl,hb5⟩))
   rename_i hHeld;have hB5:=D6 hB1 hHeld.1;have hB05:=D6 hB0 hB5;clear hHeld hS0 hL3 hL4 hO4 hb3 hb4 hb5 hv3 hB3;cases hq:pB (y.needs=rbThings x0 x0.ad)
   ·have HN:Hid (pB (NeedTo h h.bs.length)=false):=NO.out (J4.1 hq)
    go_wp2_with fail
    go_ret
    exact⟨D7 HN.out.symm,hB05⟩
   ·have HY:Hid (NeedTo h (k+1)):=YES.out (F8.1 hq)
    go_wp2_with fail
    go_roundw
    case rel=>exact⟨k+1,by omega,by go_num,HY.out,hB5⟩
    case measure=>simp[intOf];omega
  ·have HY:Hid (pB (NeedTo h h.bs.length)=true):=I7 (by
    have:=HI.out;rwa [show k=h.bs.length by omega] at this)
   go_wp2_with fail
   go_ret
   exact⟨D7 HY.out.symm,D6 hB0 hB⟩
end Go.Proofs.YtebfdccbmmpceaaGreatDoor
