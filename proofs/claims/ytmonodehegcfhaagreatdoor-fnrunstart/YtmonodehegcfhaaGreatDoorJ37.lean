/- Drawing houses: a name. -/
import Derived.Test.YtmonodehegcfhaaGreatDoorJ26
import Derived.Test.YtmonodehegcfhaaGreatDoorJ34
import Derived.Test.YtmonodehegcfhaaGreatDoorJ2
import Derived.Laws.IdiomStrings
import Derived.Deep.RegionWith
import Derived.Test.YtmonodehegcfhaaGreatDoorDr
import Derived.Test.YtmonodehegcfhaaGreatDoorJ23
import Derived.Test.YtmonodehegcfhaaGreatDoorJ11
import Derived.Test.YtmonodehegcfhaaGreatDoorJ14
import Derived.Test.YtmonodehegcfhaaGreatDoorJ15
import Derived.Test.YtmonodehegcfhaaGreatDoorDs1
import Derived.Test.YtmonodehegcfhaaGreatDoorJ8
import Derived.Test.YtmonodehegcfhaaGreatDoorXr
import Derived.Test.YtmonodehegcfhaaGreatDoorJ18
import Derived.Test.YtmonodehegcfhaaGreatDoorJ25
set_option maxRecDepth 20000
set_option maxHeartbeats 8000000
namespace Go.Proofs.YtmonodehegcfhaaGreatDoor
open Go.Proofs.Tryz
open Go.RowKit
variable{b:Bk}{h:House}{x:Int}{ls:List BA}{qs:List Ph}{ps:List Rv}{vs xs xs':List Value}{b2 base base' cap e g k n r rb:Nat}{a1 a2:Option Addr}{p:Ph}{t:TypeId}{bv dv tv u xv:Value}{w' w1:World}
def HS(rb:Nat)(w:World)(h:House)(tv bv xv dv:Value):Prop:=∀w',w.grownBy w' (some rb)->HV w' h tv bv xv dv
theorem HS.v{w:World}(H:HS rb w h tv bv xv dv):HV w h tv bv xv dv:=H w (E2 _ _)
theorem HS.gr{w:World}(H:HS rb w h tv bv xv dv)(hg:w.grownBy w' (some rb)):HS rb w' h tv bv xv dv:=λw2 hg2=>H w2 (E0 hg hg2)
theorem HS.up{w:World}(H:HS rb w h tv bv xv dv)(hb:Up w w'):HS rb w' h tv bv xv dv:=H.gr ⟨hb.os,hb.tape,hb.output,hb.size,λi hi _=>hb.block i hi⟩
theorem HX.hs{w:World}(H:HX w base h tv bv xv dv)(hr:rb<base):HS rb w h tv bv xv dv:=λ_ hg=>(H.gr hg hr).v
theorem QU(rb len N:Nat)(v:Value)(h:House)(tv bv xv dv:Value)(w:World)(hR:Rd w rb v len N)(hN:N<=900000)(H:HS rb w h tv bv xv dv)(hf:Gl h):
  Calls prog 157 #[Pz rb 0,.agg #[Iz h.now,Iz h.last,tv,bv,xv,dv]] w λe w'=>(∃s,e=.returned (Tz s)/\s.size<=maxLen)/\Rd w' rb v len (N+3)/\w.grownBy w' (some rb):=by
 obtain⟨a1,c1,a2,c2,a3,c3,a4,c4,rfl,rfl,rfl,rfl⟩:=H.v.shapes;have hn:=hf.2.1;have b8:Up w (w.alloc (.cells (Hcz h a1 c1 a2 c2 a3 c3 a4 c4).toArray 30)):=(A5 _ _).alloc (A4 _) _;obtain⟨W1,b7,kA,a7,a8,H1,d5⟩:∃W1,w.alloc (.cells (Hcz h a1 c1 a2 c2 a3 c3 a4 c4).toArray 30)=W1/\CB W1 w.heap.size (Hcz h a1 c1 a2 c2 a3 c3 a4 c4)/\Rd W1 rb v len N/\w.grownBy W1 (some rb)/\HS rb W1 h (Vz a1 h.sh.tg.length c1) (Vz a2 h.sh.bs.length c2) (Vz a3 h.bs.length c3) (Vz a4 h.ds.length c4)/\w.heap.size<W1.heap.size:=⟨_,rfl,F3 w _ _,hR.alloc _,F4 (E2 _ _) _,H.up b8,by simp⟩;go_in;go_upto_region 1 with fail;try rw[b7]
 have c9:=hR.lt;clear b7 hR H b8;obtain⟨-,-,-,-,e4,-⟩:=kA.c6;have d7:=a7.lt;have b9:w.heap.size≠rb:=by omega
 by_cases hp:0<h.bs.length
 ·go_wp2_with fail;refine (K2 rb len _ v 10 _ a7 (by omega)).mono ?_;rintro e w1 ⟨⟨x,rfl,e0,-⟩,b3,a6⟩;have b0:=E0 a8 a6;have d8:=a6.size;have H2:=H1.gr a6;have b1:=kA.kept a6 (by simpa using b9);clear a7 a8 H1 kA a6 e4;by_cases hx:0<x
  ·go_upto_region 2 with fail;have c0:Rd w1.drew rb v len (N+1):=b3.drew;have c5:w.grownBy w1.drew (some rb):=S8 b0;have Hd:=H2.up (A5 _ _).drew;have b2:CB w1.drew w.heap.size (Hcz h a1 c1 a2 c2 a3 c3 a4 c4):=b1.up (A5 _ _).drew b1.2.2;refine F5 99 (λw'=>At w' w.heap.size 4 (Vz a3 h.bs.length c3)) (by kernel_rfl) ?_;have d0:w1.heap.size=w1.drew.heap.size:=rfl;generalize w1.drew=X1 at c0 c5 Hd b2 d0 ⊢
   clear b3 b0 H2 b1;have a0:At X1 w.heap.size 4 (Vz a3 h.bs.length c3):=b2.c6.2.2.2.2.1;refine D6 0 rfl a0 ?_;refine D6 1 rfl a0 ?_;refine D6 2 rfl a0 ?_;refine D6 3 rfl a0 ?_;refine D6 4 rfl a0 ?_;refine D6 5 rfl a0 ?_;refine E7 6 rfl (λK hK=>?_);go_simp;go_wp2_with (go_at_call 20;refine (K2 rb len _ v (h.bs.length:Int) _ c0 (by omega)).mono ?_;rintro e w2 ⟨⟨y,rfl,e1,d3⟩,d4,b4⟩)
   have d1:=E0 c5 b4;have H3:=Hd.gr b4;have d2:=b2.kept b4 (by simpa using b9);have a5:At w2 w.heap.size 4 (Vz a3 h.bs.length c3):=d2.c6.2.2.2.2.1;have d9:=d3 (by omega);obtain⟨j,rfl⟩:∃j:Nat,y=(j:Int):=⟨y.toNat,by omega⟩;have hj:j<h.bs.length:=by omega
   obtain⟨-,a9⟩:=H3.v.x.inv rfl;obtain⟨bb,ob,rfl,c7,d6⟩:=a9 (by omega);obtain⟨p,q,c,g,r,d,⟨q0,-⟩,c8⟩:=(c7.at hj).open;have Hzn:Hid ((h.bs[j]).nm.size<=maxLen):=c8.zn;generalize h.bs[j]=x0 at *;refine E6 hK a5 ?_;clear hK K;refine E7 7 rfl (λK hK=>?_);go_simp;refine E6 hK a5 ?_;clear hK K;refine E7 8 rfl (λK hK=>?_);go_simp;refine E6 hK a5 ?_;clear hK K;refine E7 9 rfl (λK hK=>?_);go_simp;refine E6 hK a5 ?_;clear hK K;refine E7 10 rfl (λK hK=>?_);go_simp;refine E6 hK a5 ?_;clear hK K;refine F0 (by kernel_rfl) ?_ _;go_wp2_with fail;go_ret;exact⟨⟨x0.nm,rfl,Hzn.out⟩,d4.mono (by omega),d1⟩
  ·(go_wp2_with (first|(go_at_call 19;refine (Fd _).mono ?_;rintro e x1 ⟨rfl,rfl⟩)|(go_at_call 18;refine (Ar rb len _ v Aw 6 _ 0 6 _ rfl (b3.alloc (.cells (Aw.map Value.string).toArray 9)) (by omega) (K8 _ _ _) (by omega) (by omega) (by omega)).mono ?_;rintro e x2 ⟨⟨s,hs,rfl⟩,b5,b6⟩));go_ret;exact⟨⟨s,rfl,by have:=Jh s hs;unfold maxLen;omega⟩,b5.mono (by omega),E0 (F4 b0 _) b6⟩)
 ·have h0:h.bs.length=0:=by omega
  clear H1
  (go_wp2_with (first|(go_at_call 19;refine (Fd _).mono ?_;rintro e x1 ⟨rfl,rfl⟩)|(go_at_call 18;refine (Ar rb len _ v Aw 6 _ 0 6 _ rfl (a7.alloc (.cells (Aw.map Value.string).toArray 9)) (by omega) (K8 _ _ _) (by omega) (by omega) (by omega)).mono ?_;rintro e x2 ⟨⟨s,hs,rfl⟩,b5,b6⟩));go_ret;exact⟨⟨s,rfl,by have:=Jh s hs;unfold maxLen;omega⟩,b5.mono (by omega),E0 (F4 a8 _) b6⟩)
theorem Vc(w:World)(n:Int)(h0:0<=n)(h1:n<10):
  (convert 22 9 (Sz w.heap.size 1 1)).run prog (w.alloc (Kz [.int .u8 (48+n)] 5))=.ok (Tz ⟨#[UInt8.ofNat (48+n).toNat]⟩) (w.alloc (Kz [.int .u8 (48+n)] 5)):=by
 refine run_convert_bytes_back (P:=prog) (w.alloc (Kz [.int .u8 (48+n)] 5)) 22 9 5 ⟨w.heap.size,0,none⟩ 1 [UInt8.ofNat (48+n).toNat] underlying22 underlying5 underlying9 (λj hj=>?_);obtain rfl:j=0:=by simpa using hj
 have e:((UInt8.ofNat (48+n).toNat).toNat:Int)=48+n:=by
  rw[UInt8.toNat_ofNat'];omega
 simp only[List.getElem_cons_zero,e];simp[go_sem,Addr.add]
theorem PM(n:Int)(w:World)(h0:0<=n)(h1:n<10):
  Calls prog 67 #[Iz n] w
   λe w'=>(∃s:BA,e=.returned (Tz s)/\s.size<=10)/\Up w w':=by
 have a0:=Vc w n h0 h1;go_in;go_wp2_with fail;go_ret;exact⟨⟨_,rfl,by show 1<=10;omega⟩,by go_grown⟩
theorem Jl(W:World)(g:Nat)(x:Int)(h0:0<=x)(h1:x<256)(hc:At W g 0 (.int .u8 x)):
  (convert 22 9 (Sz g 1 1)).run prog W=.ok (Tz ⟨#[UInt8.ofNat x.toNat]⟩) W:=by
 refine run_convert_bytes_back (P:=prog) W 22 9 5 ⟨g,0,none⟩ 1 [UInt8.ofNat x.toNat] underlying22 underlying5 underlying9 (λj hj=>?_);obtain rfl:j=0:=by simpa using hj
 have e:((UInt8.ofNat x.toNat).toNat:Int)=x:=by
  rw[UInt8.toNat_ofNat'];omega
 simp only[List.getElem_cons_zero,e];exact hc
theorem Vd(s:BA)(b:UInt8)(h:s.size<=10):(s++⟨#[b]⟩:BA).size<=20:=by
 rw[ByteArray.size_append];show s.size+1<=20;omega
theorem Zr{w:World}(h:Below (w.alloc (Kz [.int .u8 x] t)).drew.heap.size (w.alloc (Kz [.int .u8 x] t)).drew w1):At w1 w.heap.size 0 (.int .u8 x) :=
 (h.cell (p:=⟨w.heap.size,0,none⟩) (by simp)).trans (by simp[go_sem])
theorem WS(n:Int)(w:World)(h0:10<=n)(h1:n<100):
  Calls prog 67 #[Iz n] w
   λe w'=>(∃s:BA,e=.returned (Tz s)/\s.size<=20)/\Up w w':=by
 have hq:Hid (IntKind.i64.wrap (n.tdiv 10)=n / 10):=by
  show _=_;rw[IntKind.wrap_i64,Int.tdiv_eq_ediv_of_nonneg (by omega)];omega
 have hX:Hid (0<=IntKind.u8.wrap (IntKind.i64.wrap (48+n.tmod 10))/\IntKind.u8.wrap (IntKind.i64.wrap (48+n.tmod 10))<256):=by
  show _/\_
  generalize IntKind.i64.wrap (48+n.tmod 10)=y;rw[IntKind.wrap_u8];omega
 go_in;go_wp2_with fail;have a1:=Jl (w.alloc (Kz [.int .u8 (IntKind.u8.wrap (IntKind.i64.wrap (48+n.tmod 10)))] 5)).drew w.heap.size _ hX.out.1 hX.out.2 (by simp[go_sem])
 go_region_with
  (go_at_call 67;refine (PM _ _ (by rw[hq.out];omega) (by rw[hq.out];omega)).mono ?_;rintro e w1 ⟨⟨s,rfl,hs⟩,a0⟩;first
   | (have hd:=Zr a0;have a2:=Jl w1 w.heap.size _ hX.out.1 hX.out.2 hd;clear hd)
   | have a3:=Jl (w1.alloc (Kz [.int .u8 (IntKind.u8.wrap (IntKind.i64.wrap (48+n.tmod 10)))] 5)) w1.heap.size _ hX.out.1 hX.out.2 (by simp[go_sem]))
 all_goals
  go_wp2_with fail;go_ret;refine⟨⟨_,rfl,Vd _ _ hs⟩,?_⟩
  first
   | exact D5 (A5 _ _).drew (D5 a0 ((A5 _ _).alloc (A4 _) _))
   | exact D5 (((A5 _ _).alloc (A4 _) _).drew) a0
theorem MJ(n:Int)(w:World)(h0:0<=n)(h1:n<100):
  Calls prog 67 #[Iz n] w
   λe w'=>(∃s:BA,e=.returned (Tz s)/\s.size<=20)/\Up w w':=by
 by_cases h:n<10
 ·refine (PM n w h0 h).mono ?_;rintro e w' ⟨⟨s,rfl,hs⟩,hB⟩;exact⟨⟨s,rfl,by omega⟩,hB⟩
 ·exact WS n w (by omega) h1
def R0:List Ph->List Value
 | []=>[]
 | p::rest=>p.cells++R0 rest
theorem CF(a b:List Ph):R0 (a++b)=R0 a++R0 b:=by
 induction a with
 | nil=>rfl
 | cons p rest ih=>simp[R0,ih]
theorem Hg(a:List Ph):(R0 a).length=a.length*8:=by
 induction a with
 | nil=>rfl
 | cons p rest ih=>simp[R0,ih,Ph.cells];omega
theorem MK:∀(a:List Ph)(i:Nat)(p:Ph),a[i]?=some p->∀(j:Nat)(u:Value),p.cells[j]?=some u->(R0 a)[i*8+j]?=some u
 | q::rest,0,p,hp,j,u,hu=>by
  simp at hp;subst hp
  have hj:j<q.cells.length:=(A3.1 hu).1;rw[R0,Nat.zero_mul,Nat.zero_add,List.getElem?_append_left hj];exact hu
 | q::rest,i+1,p,hp,j,u,hu=>by
  have:=MK rest i p (by simpa using hp) j u hu;have hl:q.cells.length=8:=rfl;rw[R0,C8 (by rw[hl];omega),hl,show (i+1)*8+j-8=i*8+j by omega];exact this
theorem DZ{w:World}{ps:List Ph}(h:w.ownsRow base e 8 (Sz g ps.length cap) ps.length (R0 ps)):M2 w g 0 ps:=λi p hp j u hu=>by
 have:=MK ps i p hp j u hu;have hj:i*8+j<ps.length*8:=by rw[← Hg];exact (A3.1 this).1
 rw[Nat.zero_add,h.cellAt (i*8+j) hj];exact this
theorem YN(s:BA)(h:s.size<=20):((⟨#[121]⟩:BA)++s).size<=maxLen:=by
 rw[ByteArray.size_append];unfold maxLen;show 1+s.size<=_;omega
theorem ML:(prog.info? 43).map (λi=>(i.zero,i.size,i.bytes))=some (some (.agg #[Ez,Iz 0,Ez,Ez,Iz 0,Iz 0,Ez,Ez]),8,104):=by kernel_rfl
theorem SU(rb len N:Nat)(v:Value)(w:World)(hR:Rd w rb v len N)(hN:N<=800000):
  Calls prog 62 #[.pointer (some ⟨rb,0,none⟩)] w
   λe w'=>(∃(u:Value)(ps:List Ph),e=.returned u/\1<=ps.length/\ps.length<=12/\(∀p∈ps,p.sz)/\w'.ownsRow w.heap.size 43 8 u ps.length (R0 ps))/\Rd w' rb v len (N+300)/\w.grownBy w' (some rb):=by
 have f8:=hR.lt;have a8:rb<w.heap.size+1:=by omega
 go_in;go_wp2_with fail;refine (Np w).mono ?_;rintro e w1 ⟨rfl,rfl⟩;go_wp2_with fail;refine (K2 rb len N v 8 _ (hR.alloc _) (by omega)).mono ?_;rintro e w1 ⟨⟨x,rfl,g3,d8⟩,f6,b8⟩;have f9:=d8 (by omega);obtain⟨n,rfl⟩:∃n:Nat,x=(n:Int):=⟨x.toNat,by omega⟩;have e1:=(K8 w M4 9).kept b8 (by omega);have e2:=E0 (F4 (E2 w (some rb)) (.cells (M4.map Value.string).toArray 9)) b8;have e3:=b8.size;clear d8 b8 hR;obtain⟨ii,hi,c7,c8,c9⟩:=info_parts ML;go_wp2_with fail;(try dsimp only[Iz,Sz,Sy,Nz,Vz,Tz,Ez,Pz]);go_loopw [5,6] (λu i w'=>∃(k:Nat)(ps:List Ph),k<=n+1/\i=.int .i64 k/\ps.length=k/\(∀p∈ps,p.sz)/\w'.ownsRow (w.heap.size+1) 43 8 u ps.length (R0 ps)/\Rd w' rb v len (N+1+12*k)/\w.grownBy w' (some rb)/\F9 w' w.heap.size 0 M4) (λ_ i _=>n+1-(intOf i).toNat)
 case atStart=>exact⟨0,[],by omega,rfl,rfl,by simp,C0 w1 #[] 0 (by simp at e3;omega) (by unfold maxLen;omega) rfl,f6.alloc _,F4 e2 _,e1.alloc _⟩
 case round =>
  obtain⟨k,ps,hk,rfl,a9,b2,a1,a5,a6,b0⟩:=hrel;have e4:=a6.size;have c5:=a5.lt;have e5:w.heap.size+1<=wr.heap.size:=World.block_lt_of_cell? wr _ (b0 0 _ rfl);by_cases hkn:k<n+1
  ·have b5:k<M4.length:=by simp[M4];omega
   have b4:wr.cell? ⟨w.heap.size,k,none⟩=some (.string (M4[k]'b5)):=by
    have:=b0 k (M4[k]'b5) (by simp);simpa using this
   have e6:(M4[k]'b5).size<=maxLen:=Y6 (ss:=M4) (by decide) _ (by simp)
   have d1:F9 wr w.heap.size (k+1) ((M4.take (n+1)).drop (k+1)):=by
    have:=(b0.take (n+1)).drop (k+1);simpa using this
   have d2:TD ((M4.take (n+1)).drop (k+1)):=λs hs=>Y6 (ss:=M4) (by decide) s (List.mem_of_mem_take (List.mem_of_mem_drop hs));have e7:((M4.take (n+1)).drop (k+1)).length=n-k:=by simp[M4];omega
   generalize hX:M4[k]'b5=nm at *;generalize hY:(M4.take (n+1)).drop (k+1)=lat at *;clear hX hY;have HSk:Hid (F9 wr w.heap.size 0 M4):=b0;clear b0;go_wp2_with fail;have e8:(k:Int)<8:=by omega
   have e9:IntKind.i64.wrap ((k:Int)+1)=(k:Int)+1:=by rw[IntKind.wrap_i64];omega
   have f0:(k:Int)+1<=1+(n:Int):=by omega
   have d3:1+(n:Int)<=8:=by omega
   have d4:¬1+(n:Int)<(k:Int)+1:=by omega
   have d5:0<=(k:Int)+1:=by omega
   obtain⟨o2,c1⟩:∃o2:Nat,(if k=7 then some (⟨w.heap.size,0,none⟩:Addr) else some ⟨w.heap.size,k+1,none⟩)=some ⟨w.heap.size,o2,none⟩/\F9 wr w.heap.size o2 lat:=by
    by_cases h7:k=7
    ·exact⟨0,by rw[if_pos h7],λi s hs=>by
      have:=(A3.1 hs).1;omega⟩
    ·exact⟨k+1,by rw[if_neg h7],d1⟩
   obtain⟨c1,b3⟩:=c1;have f1:(1+(n:Int)).toNat-(k+1)=n-k:=by omega
   clear d1
   go_region_law (first
    | (go_simp;go_at_call 64;refine (Fq rb len _ v nm lat w.heap.size o2 _ (n-k) wr.drew a5.drew (by omega) e6 d2 e7 (by omega) b3.drew (by omega)).mono ?_;rintro e w2 ⟨⟨q,rfl,hq⟩,b1,a4⟩;have f2:wr.heap.size<=w2.heap.size:=a4.size;have a0:=(F2 (Bp a1) a4 (by omega)).alloc (.cells #[.string q.nm,.int .i64 q.k,.string q.a,.string q.b,.int .i64 q.n,.int .i64 q.wi,.string q.t,.string q.e] 43))
    | (refine J0 rfl _ _ 31 rfl (w.heap.size+1) 43 ii _ 8 104 underlying31 hi c7 c8 c9 rfl (by decide) u5 _ _ rfl a0 ⟨w2.heap.size,0,none⟩ 1 1 q.cells rfl rfl (λj u hj=>Mz _ _ _ hj) (Lf q) (by unfold maxLen;omega) (by omega) (by simp;omega) ?_;intro v' w3 a2 hgrow4))
   have b6:=(b1.alloc (.cells #[.string q.nm,.int .i64 q.k,.string q.a,.string q.b,.int .i64 q.n,.int .i64 q.wi,.string q.t,.string q.e] 43)).own a0 hgrow4 (by omega);have b7:=U7 (F4 (E0 (S8 a6) a4) _) a0 hgrow4 (by omega);have HS3:=(((HSk.out.drew).kept a4 (by omega)).alloc (.cells #[.string q.nm,.int .i64 q.k,.string q.a,.string q.b,.int .i64 q.n,.int .i64 q.wi,.string q.t,.string q.e] 43)).own a0 hgrow4 (by omega)
   have Hpz:Hid (∀p∈ps++[q],p.sz):=by
    show _;intro p hp
    rcases D0.1 hp with hp|hp
    ·exact b2 p hp
    ·obtain rfl:p=q:=by simpa using hp
     exact hq
   clear hgrow4 a0 a1 a4 a6 b1 HSk b2 a5 b4 b3 d2 c1 f1 e9 f0 d3 d4 d5 e8 hq;go_wp2_with fail;go_roundw
   case rel=>exact⟨k+1,ps++[q],by omega,by go_num,by simp[a9],Hpz.out,by rw[CF,B0];simpa [R0] using a2,b6.mono (by omega),b7,HS3⟩
   case measure=>simp[intOf];omega
  ·obtain rfl:k=n+1:=by omega
   obtain⟨g,d0,rfl⟩:=I6 a1 (by omega);go_wp2_with fail;refine (K2 rb len _ v 20 _ a5 (by omega)).mono ?_;rintro e w2 ⟨⟨y,rfl,g4,d7⟩,b1,a4⟩;have a7:=F2 a1 a4 (by omega);have c6:=E0 a6 a4;have f3:=a4.size;clear a1 a4 a6 a5 d7 b0;have a3:=a7;rw[a9] at a3;by_cases hy:y=0
   ·subst hy;go_wp2_with fail;(try dsimp only[Iz,Sz,Sy,Nz,Vz,Tz,Ez,Pz]);go_loopw [5,7] (λu i w'=>∃(k:Nat)(ps:List Ph),i=.int .i64 k/\ps.length=n+1+k/\ps.length<=12/\(∀p∈ps,p.sz)/\w'.ownsRow (w.heap.size+1) 43 8 u ps.length (R0 ps)/\Rd w' rb v len (N+102+12*k)/\w.grownBy w' (some rb)/\w.heap.size+1<=w'.heap.size) (λ_ i _=>12-(intOf i).toNat)
    case atStart=>exact⟨0,ps,rfl,a9,by omega,b2,by rw[a9];exact a3,b1.mono (by omega),c6,by omega⟩
    case round =>
     clear a7 a3 b1 c6 b2 a9 f3 e5 e4 c5;obtain⟨k,qs,rfl,c2,c3,c4,a1,a5,a6,f7⟩:=hrel;obtain⟨g,d0,rfl⟩:=I6 a1 (by omega);have Hql:Hid (qs.length=n+1+k):=c2;have g0:n+1+k<=12:=by omega
     by_cases hq:qs.length<12
     ·have g1:n+1+k<12:=by omega
      clear c2;have g2:(k:Int)<100:=by omega
      go_wp2_with fail;refine (MJ k wr (by omega) (by omega)).mono ?_;rintro e w3 ⟨⟨s,rfl,hs⟩,b9⟩;have d3:=b9.size;have b6:=(a5.kept b9).alloc (.cells #[] 9);have b7:=F4 (E0 a6 (L2 b9)) (.cells #[] 9);have a0:=(F2 a1 (L2 b9) a8).alloc (.cells #[] 9);clear a5 a6 a1;go_wp2_with fail;refine (Fq rb len _ v _ [] w3.heap.size 0 0 0 _ b6 (by omega) (YN s hs) (λs hs=>by simp at hs) rfl (by omega) (λi s hs=>by simp at hs) (by omega)).mono ?_;rintro e w4 ⟨⟨q,rfl,d9⟩,e0,c0⟩;have d4:w3.heap.size<=w4.heap.size:=by have:=c0.size;simp at this;omega
      have a2:=(F2 a0 c0 a8).alloc (.cells #[.string q.nm,.int .i64 q.k,.string q.a,.string q.b,.int .i64 q.n,.int .i64 q.wi,.string q.t,.string q.e] 43);have d6:=F4 (E0 b7 c0) (.cells #[.string q.nm,.int .i64 q.k,.string q.a,.string q.b,.int .i64 q.n,.int .i64 q.wi,.string q.t,.string q.e] 43)
      have Hpz:Hid (∀p∈qs++[q],p.sz):=by
       show _;intro p hp
       rcases D0.1 hp with hp|hp
       ·exact c4 p hp
       ·obtain rfl:p=q:=by simpa using hp
        exact d9
      clear b6 b7 a0 c0 c4 d9;go_wp2_with (at_builtin;refine wpList_append_own _ rfl _ _ 31 rfl (w.heap.size+1) 43 ii _ 8 104 underlying31 hi c7 c8 c9 rfl (by decide) (.slice (some ⟨g,0,none⟩) qs.length d0) _ _ rfl a2 ⟨w4.heap.size,0,none⟩ 1 1 q.cells rfl rfl (λj u hj=>Mz _ _ _ hj) (Lf q) (by unfold maxLen;omega) (by omega) (by simp;omega) ?_)
      intro v' w5 hown5 hgrow5 _;have f4:=(e0.alloc (.cells #[.string q.nm,.int .i64 q.k,.string q.a,.string q.b,.int .i64 q.n,.int .i64 q.wi,.string q.t,.string q.e] 43)).own a2 hgrow5 a8;have f5:=U7 d6 a2 hgrow5 (by omega);have d5:w4.heap.size<=w5.heap.size:=by have:=hgrow5.size;simp at this;omega
      clear e0 d6 hgrow5 a2;go_wp2_with fail;go_roundw
      case rel=>exact⟨k+1,qs++[q],by go_num,by rw[B0,Hql.out];simp;omega,by rw[B0];simp;omega,Hpz.out,by rw[CF,B0];simpa [R0] using hown5,f4.mono (by omega),f5,by omega⟩
      case measure=>simp[intOf];omega
     ·clear c2;go_wp2_with fail;go_ret;exact⟨⟨_,qs,rfl,by omega,c3,c4,I8 a1 (Nat.le_succ _)⟩,a5.mono (by omega),a6⟩
   ·have d7:(y==0)=false:=by simpa using hy
    go_wp2_with fail;go_ret;exact⟨⟨_,ps,rfl,by omega,by omega,b2,by rw[a9];exact I8 a3 (Nat.le_succ _)⟩,b1.mono (by omega),c6⟩
theorem Mj:(prog.info? 30).map (·.size)=some 6:=by kernel_rfl
noncomputable def Nw(ls:List BA):Bool:=K4 ⟨ls,[]⟩
noncomputable def Jx(ls:List BA):List BA:=if Nw ls=true then ls else []
theorem MM(h:Nw ls=true):Jx ls=ls:=by rw[Jx,if_pos h]
theorem PN(h:Nw ls=false):Jx ls=[]:=by rw[Jx,if_neg (by simp[h])]
theorem Yd(ls:List BA):(Jx ls).length<=8:=by
 cases h:Nw ls
 ·rw[PN h];simp
 ·rw[MM h];exact (K5.1 h).1.1
theorem YO(h:∀s∈ls,s.size<=maxLen):∀s∈Jx ls,s.size<=maxLen:=λs hs=>by
 cases ho:Nw ls
 ·rw[PN ho] at hs;simp at hs
 ·rw[MM ho] at hs;exact h s hs
def RR(w:World)(base:Nat)(v:Value)(ls:List BA):Prop:=∃a1 c1 a2 c2,v=.agg #[.int .i64 0,.int .i64 0,.slice a1 ls.length c1,.slice a2 0 c2,.slice none 0 0,.slice none 0 0]/\F7 w base (.slice a1 ls.length c1) ls
theorem RR.up{w:World}{v:Value}(h:RR w base v ls)(hb:Up w w'):RR w' base v ls:=by
 obtain⟨a1,c1,a2,c2,e,h1⟩:=h;exact⟨a1,c1,a2,c2,e,h1.up hb⟩
theorem WT(w:World)(base:Nat):RR w base (.agg #[Iz 0,Iz 0,Nz,Nz,Nz,Nz]) []:=⟨none,0,none,0,rfl,B9 _ _ _ _⟩
theorem Ve{w:World}{c1 c2:Nat}(h:Ls w (Vz a1 ls.length c1) ls):Q6 w (.agg #[Vz a1 ls.length c1,Vz a2 0 c2]) ⟨ls,[]⟩ :=
 ⟨_,_,rfl,h,a2,c2,rfl,by simp,λh=>by simp at h⟩
theorem PO(ls:List BA)(lv:Value)(w:World)(hl:Ls w lv ls)(hn:ls.length<=1048576):
  Calls prog 113 #[lv] w λe w'=>(∃u,e=.returned (.tuple #[u,.bool (Nw ls)])/\RR w' w.heap.size u (Jx ls))/\Up w w':=by
 obtain⟨al,cl,rfl,-,b2,-⟩:=id hl;go_in;go_upto_region 1 with fail;obtain⟨W1,a7,kR,a6,b3⟩:=cbE1 w [Iz 0,Iz 0,Nz,Nz,Nz,Nz] 30;rw[a7];clear a7;go_wp2_with fail;refine (Bj ls _ _ (hl.up a6) hn).mono ?_;rintro e w2 ⟨⟨u,rfl,a0,-⟩,a5⟩;obtain⟨a1,c1,rfl⟩:=a0.lst.shape;have b5:=a5.size;have kR:=kR.up a5 (by omega);have a9:=D5 a6 a5;clear a5 a6;go_upto_region 2 with fail;obtain⟨W3,a8,kX,a4,b4⟩:=cbE1 w2 [Vz a1 ls.length c1,Nz] 26;try rw[a8]
 clear a8;have kR:=kR.up a4 (by omega);have b0:=D5 a9 a4;have a0:=a0.up a4;have hL:=a0.lst.ls b2;clear a9 a4;obtain⟨z0,z1⟩:=kX.c2';go_wp2_with fail;refine (Cc ⟨ls,[]⟩ _ _ (Ve hL)).mono ?_;rintro e w4 ⟨rfl,a2⟩;have b6:=a2.size;have kR:=kR.up a2 (by omega);have kX:=kX.up a2 (by omega);have b1:=D5 b0 a2;have a0:=a0.up a2;clear z0 z1 b0 a2 hL;have a3:w.heap.size<W1.heap.size:=by omega
 obtain⟨⟨y0,y1,y2,y3,y4,y5⟩,g0,g1,g2,g3,g4,g5⟩:=(⟨kR.c6,kR.f6⟩:_/\_);cases hb:K4 ⟨ls,[]⟩
 ·have ho:Nw ls=false:=hb;go_wp2_with fail;refine R7 results113 underlying30 rfl Mj kR rfl rfl ?_;rw[ho,PN ho];exact⟨⟨_,rfl,WT _ _⟩,I9 b1 (A4 _) _ _ _ _ _ _⟩
 ·have ho:Nw ls=true:=hb;obtain⟨z0,z1⟩:=kX.c2';go_wp2_with fail;refine R7 results113 underlying30 rfl Mj kR rfl rfl ?_;rw[ho,MM ho];refine⟨⟨_,rfl,_,_,_,_,rfl,?_⟩,I9 b1 (A4 _) _ _ _ _ _ _⟩;exact I8 (Wh a0 a3) (by omega)
theorem PP:∀(qs:List Ph)(k:Nat)(p:Ph),k<qs.length->((((((((R0 qs).set (k*8) (Tz p.nm)).set (k*8+1) (Iz p.k)).set (k*8+2) (Tz p.a)).set (k*8+3) (Tz p.b)).set (k*8+4) (Iz p.n)).set (k*8+5) (Iz p.wi)).set (k*8+6) (Tz p.t)).set (k*8+7) (Tz p.e)=R0 (qs.set k p)
 | q::rest,0,p,_=>by simp[R0,Ph.cells]
 | q::rest,k+1,p,h=>by
  have ih:=PP rest k p (by simpa using h);rw[List.set_cons_succ,R0,R0,← ih];have hl:q.cells.length=8:=rfl
  have hs:∀(l:List Value)(j:Nat)(u:Value),(q.cells++l).set ((k+1)*8+j) u=q.cells++l.set (k*8+j) u:=λl j u=>by
   rw[List.set_append_right _ _ (by rw[hl];omega),hl,show (k+1)*8+j-8=k*8+j by omega]
  have h0:=hs (R0 rest) 0 (Tz p.nm);rw[Nat.add_zero,Nat.add_zero] at h0;rw[h0,hs,hs,hs,hs,hs,hs,hs];rfl
theorem Nx{w:World}(h:w.ownsRow base e 8 (Sz g qs.length cap) qs.length (R0 qs))(hk:k<qs.length):
  (w.setCells g (k*8) p.cells).ownsRow base e 8 (Sz g qs.length cap) qs.length (R0 (qs.set k p))/\w.grownBy (w.setCells g (k*8) p.cells) (some g):=by
 have h0:=h.stored (k*8) (Tz p.nm);have h1:=h0.1.stored (k*8+1) (Iz p.k);have h2:=h1.1.stored (k*8+2) (Tz p.a);have h3:=h2.1.stored (k*8+3) (Tz p.b);have h4:=h3.1.stored (k*8+4) (Iz p.n);have h5:=h4.1.stored (k*8+5) (Iz p.wi);have h6:=h5.1.stored (k*8+6) (Tz p.t);have h7:=h6.1.stored (k*8+7) (Tz p.e);rw[PP qs k p hk] at h7;exact⟨h7.1,E0 (E0 (E0 (E0 (E0 (E0 (E0 h0.2 h1.2) h2.2) h3.2) h4.2) h5.2) h6.2) h7.2⟩
theorem PQ:∀(ps:List Ph),∀u∈R0 ps,u.oneCell'=true
 | [],u,hu=>by simp[R0] at hu
 | p::rest,u,hu=>by
  rw[R0,D0] at hu;rcases hu with hu|hu
  ·exact Lf p u hu
  ·exact PQ rest u hu
theorem YP(s:BA)(h:s.size<=20):((⟨#[122]⟩:BA)++s).size<=maxLen:=by
 rw[ByteArray.size_append];unfold maxLen;show 1+s.size<=_;omega
theorem Ny{w:World}(h:w.ownsRow base e 8 (Sz g n cap) n xs):w.there g 0 (n*8):=λj hj=>by
 rw[Nat.zero_add];refine⟨?_,h.frozenAt j⟩;rw[h.cellAt j hj,A0 (by rw[h.1];exact hj)];rfl
theorem Ml(rb len N:Nat)(v:Value)(ps:List Ph)(gx cx:Nat)(w:World)(hR:Rd w rb v len N)(hN:N<=850000)(hx:M2 w gx 0 ps)(h1:1<=ps.length)(h12:ps.length<=12)(hpz:∀p∈ps,p.sz)(hgx:gx<w.heap.size):
  Calls prog 21 #[Pz rb 0,Sz gx ps.length cx] w
   λe w'=>(∃(u:Value)(qs:List Ph),e=.returned u/\1<=qs.length/\qs.length<=13/\(∀p∈qs,p.sz)/\w'.ownsRow w.heap.size 43 8 u qs.length (R0 qs))/\Rd w' rb v len (N+300)/\w.grownBy w' (some rb):=by
 have a7:=hR.lt;obtain⟨ii,hi,d2,d3,d4⟩:=info_parts ML
 have a8:∀(j:Nat)(u:Value),(R0 ps)[j]?=some u->(w.alloc (Kz [] 43)).cell? ((⟨gx,0,none⟩:Addr).add j)=some u:=λj u hu=>by
  have hj:j<ps.length*8:=by rw[← Hg];exact (A3.1 hu).1
  have hp:ps[j / 8]?=some (ps[j / 8]'(by omega)):=by simp
  have hc:=MK ps (j / 8) _ hp (j % 8) ((ps[j / 8]'(by omega)).cells[j % 8]'(by show _<8;omega)) (by simp);rw[show j / 8*8+j % 8=j by omega,hu] at hc;have hr:=hx (j / 8) _ hp (j % 8) u (by rw[A6 hc];simp);rw[Addr.add_mid,World.cell?_alloc_lt _ _ _ hgx];rw[show 0+j / 8*8+j % 8=0+j by omega] at hr;exact hr
 have b5:∀u∈R0 ps,u.oneCell'=true:=PQ ps;go_in;go_wp2_with (at_builtin;refine wpList_append_own _ rfl _ _ 31 rfl w.heap.size 43 ii _ 8 104 underlying31 hi d2 d3 d4 rfl (by decide) (Sz w.heap.size 0 0) 0 _ rfl (C0 w #[] 0 (A4 _) (by unfold maxLen;omega) rfl) ⟨gx,0,none⟩ ps.length cx (R0 ps) rfl (Hg ps) a8 b5 (by unfold maxLen;omega) (by omega) (by simp) ?_)
 intro v1 w1 a2 hgrow1 _;have a2:w1.ownsRow w.heap.size 43 8 v1 ps.length (R0 ps):=by simpa using a2
 have e0:=(hR.alloc (Kz [] 43)).row (k:=w.heap.size) hgrow1 a7;have e1:w.grownBy w1 (some rb):=I3 (F4 (E2 w (some rb)) _) hgrow1 (A4 _);have f4:w.heap.size<w1.heap.size:=by have:=hgrow1.size;simp at this;omega
 obtain⟨g,d5,rfl⟩:=I6 a2 (by omega);clear hgrow1 hR a8 b5;go_wp2_with fail;refine (K2 rb len _ v _ _ e0 (by omega)).mono ?_;rintro e w2 ⟨⟨x,rfl,f3,e3⟩,e4,c9⟩;have e8:=e3 (by omega);obtain⟨k,rfl⟩:∃k:Nat,x=(k:Int):=⟨x.toNat,by omega⟩;have hk:k<ps.length:=by omega
 have a9:=F2 a2 c9 a7;have e2:=E0 e1 c9;have f5:=c9.size;clear e3 e8 f3 a2 e1 e0 c9;go_wp2_with fail;refine (K2 rb len _ v 6 _ e4 (by omega)).mono ?_;rintro e w3 ⟨⟨y,rfl,g6,e5⟩,a6,d0⟩;have f6:=e5 (by omega);have a1:=F2 a9 d0 a7;have a5:=E0 e2 d0;have f7:=d0.size;clear e5 a9 e2 e4 d0;have b8:=DZ a1;obtain⟨c0,c1,c2,c3,c4,c5,c6,c7⟩:=b8.cells k hk;simp only[Nat.zero_add] at c0 c1 c2 c3 c4 c5 c6 c7;have b9:(ps[k]).sz:=hpz _ (by simp);generalize hP:ps[k]=p at *;rcases (by omega:y=0∨y=1∨y=2∨(3<=y/\y<=5)) with rfl|rfl|rfl|hy
 ·have a0:=a1.alloc (Kz [Tz p.nm,Iz p.k,Tz p.a,Tz p.b,Iz p.n,Iz p.wi,Tz p.t,Tz p.e] 43)
  have Hpz:Hid (∀q∈ps++[p],q.sz):=by
   show _;intro q hq
   rcases D0.1 hq with hq|hq
   ·exact hpz q hq
   ·obtain rfl:q=p:=by simpa using hq
    exact b9
  go_wp2_with (at_builtin;refine wpList_append_own _ rfl _ _ 31 rfl w.heap.size 43 ii _ 8 104 underlying31 hi d2 d3 d4 rfl (by decide) (Sz g ps.length d5) _ _ rfl a0 ⟨w3.heap.size,0,none⟩ 1 1 p.cells rfl rfl (λj u hj=>Mz _ _ _ hj) (Lf p) (by unfold maxLen;omega) (by omega) (by simp;omega) ?_)
  intro v' w5 hown5 hgrow5 _;have d7:=(a6.alloc (Kz [Tz p.nm,Iz p.k,Tz p.a,Tz p.b,Iz p.n,Iz p.wi,Tz p.t,Tz p.e] 43)).own a0 hgrow5 a7;have d8:=U7 (F4 a5 _) a0 hgrow5 (A4 _);clear hgrow5 a0 a1 a6 a5 c0 c1 c2 c3 c4 c5 c6 c7 b8;go_wp2_with fail;go_ret;exact⟨⟨_,ps++[p],rfl,by simp,by simp;omega,Hpz.out,by rw[CF,B0];simpa [R0] using hown5⟩,d7.mono (by omega),d8⟩
 ·have b0:=Nx (k:=0) (p:=p) a1 (by omega);rw[Nat.zero_mul] at b0;have d9:=Ny a1
  have Hpz:Hid (∀q∈ps.set 0 p,q.sz):=by
   show _;intro q hq
   rcases List.mem_or_eq_of_mem_set hq with hq|rfl
   ·exact hpz q hq
   ·exact b9
  go_wp2_with (refine wpList_store_mid rfl 43 _ _ rfl g 0 _ rfl rfl (λj hj=>by
     have:=d9 j (by simp at hj;omega);simpa using this) FW (by simp[Value.oneCell']) ?_)
  go_ret;exact⟨⟨_,ps.set 0 p,rfl,by simp;omega,by simp;omega,Hpz.out,by rw[List.length_set];exact b0.1⟩,(a6.row b0.2 (by have:=(a1.lt g rfl).1;omega)).mono (by omega),I3 a5 b0.2 (by have:=(a1.lt g rfl).1;omega)⟩
 ·clear c0 c1 c2 c3 c4 c5 c6 c7 b8 hx hP b9;go_wp2_with fail;refine (K2 rb len _ v 2 _ a6 (by omega)).mono ?_;rintro e w4 ⟨⟨z,rfl,g7,e6⟩,b2,a3⟩;have f8:=e6 (by omega);obtain⟨m,rfl⟩:∃m:Nat,z=(m:Int):=⟨z.toNat,by omega⟩;have a0:=F2 a1 a3 a7;have b1:=E0 a5 a3;have e9:=a3.size;clear a3 a1 a5 a6 e6;go_wp2_with fail;(try dsimp only[Iz,Sz,Sy,Nz,Vz,Tz,Ez,Pz]);go_loopw [5,8] (λu i w'=>∃(k:Nat)(qs:List Ph),i=.int .i64 k/\qs.length=ps.length+k/\qs.length<=13/\(∀p∈qs,p.sz)/\w'.ownsRow w.heap.size 43 8 u qs.length (R0 qs)/\Rd w' rb v len (N+10+12*k)/\w.grownBy w' (some rb)) (λ_ i _=>13-(intOf i).toNat)
  case atStart=>exact⟨0,ps,rfl,rfl,by omega,hpz,a0,b2.mono (by omega),b1⟩
  case round =>
   clear a0 b2 b1 hpz e9;obtain⟨k,qs,rfl,d6,b3,b6,a4,b7,b4⟩:=hrel;have f9:=b4.size;obtain⟨g,d5,rfl⟩:=I6 a4 (by omega);have Hql:Hid (qs.length=ps.length+k):=d6;have g0:ps.length+k<=13:=by omega
   by_cases hq:(qs.length:Int)<12+(m:Int)
   ·have c8:qs.length<13:=by omega
    have g1:ps.length+k<13:=by omega
    clear d6;have g2:(k:Int)<100:=by omega
    go_wp2_with fail;refine (MJ k wr (by omega) (by omega)).mono ?_;rintro e w3 ⟨⟨s,rfl,hs⟩,d1⟩;have g3:=d1.size;have a6:=(b7.kept d1).alloc (Kz [] 9);have a5:=F4 (E0 b4 (L2 d1)) (Kz [] 9);have a1:=(F2 a4 (L2 d1) a7).alloc (Kz [] 9);clear b7 b4 a4;go_wp2_with fail;refine (Fq rb len _ v _ [] w3.heap.size 0 0 0 _ a6 (by omega) (YP s hs) (λs hs=>by simp at hs) rfl (by omega) (λi s hs=>by simp at hs) (by omega)).mono ?_;rintro e w4 ⟨⟨q,rfl,e7⟩,b2,a3⟩;have g4:w3.heap.size<=w4.heap.size:=by have:=a3.size;simp at this;omega
    have a0:=(F2 a1 a3 a7).alloc (Kz [Tz q.nm,Iz q.k,Tz q.a,Tz q.b,Iz q.n,Iz q.wi,Tz q.t,Tz q.e] 43);have b1:=F4 (E0 a5 a3) (Kz [Tz q.nm,Iz q.k,Tz q.a,Tz q.b,Iz q.n,Iz q.wi,Tz q.t,Tz q.e] 43)
    have Hpz:Hid (∀p∈qs++[q],p.sz):=by
     show _;intro p hp
     rcases D0.1 hp with hp|hp
     ·exact b6 p hp
     ·obtain rfl:p=q:=by simpa using hp
      exact e7
    clear a6 a5 a1 a3 b6 e7;go_wp2_with (at_builtin;refine wpList_append_own _ rfl _ _ 31 rfl w.heap.size 43 ii _ 8 104 underlying31 hi d2 d3 d4 rfl (by decide) (Sz g qs.length d5) _ _ rfl a0 ⟨w4.heap.size,0,none⟩ 1 1 q.cells rfl rfl (λj u hj=>Mz _ _ _ hj) (Lf q) (by unfold maxLen;omega) (by omega) (by simp;omega) ?_)
    intro v' w5 hown5 hgrow5 _;have d7:=(b2.alloc (Kz [Tz q.nm,Iz q.k,Tz q.a,Tz q.b,Iz q.n,Iz q.wi,Tz q.t,Tz q.e] 43)).own a0 hgrow5 a7;have d8:=U7 b1 a0 hgrow5 (by omega);clear b2 b1 hgrow5 a0;go_wp2_with fail;go_roundw
    case rel=>exact⟨k+1,qs++[q],by go_num,by rw[B0,Hql.out];simp;omega,by rw[B0];simp;omega,Hpz.out,by rw[CF,B0];simpa [R0] using hown5,d7.mono (by omega),d8⟩
    case measure=>simp[intOf];omega
   ·clear d6;go_wp2_with fail;go_ret
    first
     | exact⟨⟨_,rfl,qs,by omega,b3,b6,a4⟩,b7.mono (by omega),b4⟩
     | exact⟨⟨_,qs,rfl,by omega,b3,b6,a4⟩,b7.mono (by omega),b4⟩
 ·have f0:(y==0)=false:=by simp;omega
  have f1:(y==1)=false:=by simp;omega
  have f2:(y==2)=false:=by simp;omega
  go_wp2_with fail;refine (UL rb len _ v p _ a6 (by omega) b9).mono ?_;rintro e w4 ⟨⟨q,rfl,hq⟩,b2,a3⟩;have a0:=F2 a1 a3 a7;have b1:=E0 a5 a3;have b0:=Nx (k:=k) (p:=q) a0 hk;have d9:=Ny a0;have g5:=(a0.lt g rfl).1
  have Hpz:Hid (∀p∈ps.set k q,p.sz):=by
   show _;intro q' c8
   rcases List.mem_or_eq_of_mem_set c8 with c8|rfl
   ·exact hpz _ c8
   ·exact hq
  clear a3 a1 a5 a6 c0 c1 c2 c3 c4 c5 c6 c7 b8
  go_wp2_with (refine wpList_store_mid rfl 43 _ _ rfl g (k*8) _ rfl rfl (λj hj=>by
     have:=d9 (k*8+j) (by simp at hj;omega);simpa using this) FW (by simp[Value.oneCell']) ?_)
  go_ret;exact⟨⟨_,ps.set k q,rfl,by simp;omega,by simp;omega,Hpz.out,by rw[List.length_set];exact b0.1⟩,(b2.row b0.2 (by omega)).mono (by omega),I3 b1 b0.2 (by omega)⟩
theorem Er(rb len N:Nat)(v:Value)(n:Int)(w:World)(hR:Rd w rb v len N)(hN:N<=1000000):
  Calls prog 158 #[Pz rb 0,Iz n] w
   λe w'=>(∃x:Int,e=.returned (Iz x)/\0<=x/\(1<=n->x<n))/\Rd w' rb v len (N+1)/\w.grownBy w' (some rb):=by
 obtain⟨p,hp,c0,c1,f1,a0,hl⟩:=hR;have d0:(w.setCell ⟨rb,1,none⟩ (Iz ((p:Int)+1))).cell? ⟨rb,0,none⟩=some v:=by rw[C1 _ _ _ _ (by simp)];exact c0
 have d1:(w.setCell ⟨rb,1,none⟩ (Iz ((p:Int)+1))).cell? ⟨rb,1,none⟩=some (Iz ((p:Int)+1)):=World.cell?_setCell_same _ _ _ c1;have d2:(w.setCell ⟨rb,1,none⟩ (Iz ((p:Int)+1))).frozen? ⟨rb,1,none⟩=false:=by rw[World.frozen?_setCell];exact f1
 have hg:w.grownBy (w.setCell ⟨rb,1,none⟩ (Iz ((p:Int)+1))) (some rb):=E1 (E2 _ _) _;have HR:Hid (Rd (w.setCell ⟨rb,1,none⟩ (Iz ((p:Int)+1))) rb v len (N+1)):=⟨p+1,by omega,d0,by simpa using d1,d2,a0.kept hg,hl⟩;obtain⟨a,a8,rfl,a0⟩:=a0;by_cases hn:n<1
 ·go_in;go_wp2;go_ret;exact⟨⟨0,rfl,by omega,by omega⟩,HR.out,hg⟩
 by_cases h0:len=0
 ·subst h0;go_in;go_wp2;go_ret;exact⟨⟨0,rfl,by omega,by omega⟩,HR.out,hg⟩
 rcases a0 with h|⟨b,o,z,rfl,hb,hz⟩
 ·exact absurd h h0
 have e0:((len:Int)==0)=false:=by simp;omega
 by_cases hpl:p<len
 ·obtain⟨a1,a9,b0⟩:=hz p hpl;have a2:=hg.cell a1 (by simp;omega);go_in;go_wp2;go_ret;exact⟨⟨_,rfl,Int.emod_nonneg _ (by omega),Int.emod_lt_of_pos _ (by omega)⟩,HR.out,hg⟩
 ·obtain⟨y1,y2,y3⟩:=hz (p % len) (Nat.mod_lt _ (by omega));obtain⟨q1,q2,q3⟩:=hz ((p*7+3) % len) (Nat.mod_lt _ (by omega));have a3:=hg.cell y1 (by simp;omega);have a4:=hg.cell q1 (by simp;omega);have a5:p % len<len:=Nat.mod_lt _ (by omega);have a6:(p*7+3) % len<len:=Nat.mod_lt _ (by omega);have a7:0<len:=by omega
  have i1:(0:Int)<=(p:Int) % (len:Int):=Int.emod_nonneg _ (by omega);have i2:(p:Int) % (len:Int)<(len:Int):=Int.emod_lt_of_pos _ (by omega);have i3:(0:Int)<=((p:Int)*7+3) % (len:Int):=Int.emod_nonneg _ (by omega);have i4:((p:Int)*7+3) % (len:Int)<(len:Int):=Int.emod_lt_of_pos _ (by omega);have t1:((p:Int) % (len:Int)).toNat=p % len:=by rw[← Int.natCast_emod];rfl
  have t2:(((p:Int)*7+3) % (len:Int)).toNat=(p*7+3) % len:=by rw[show ((p:Int)*7+3)=((p*7+3:Nat):Int) by omega,← Int.natCast_emod];rfl
  have j1:(0:Int)<=(p:Int) / (len:Int):=Int.ediv_nonneg (by omega) (by omega);have j2:(p:Int) / (len:Int)<=(p:Int):=by rw[← Int.natCast_ediv];have:=Nat.div_le_self p len;omega
  clear hz y1 q1;go_in;go_wp2;go_quiet (fail);obtain⟨X,hX,b1⟩:∃X:Nat,z (p % len)*131+z ((p*7+3) % len)*1117+(p:Int)*29+(p:Int) / (len:Int)*53=(X:Int)/\X<=1000000000:=⟨(z (p % len)*131+z ((p*7+3) % len)*1117+(p:Int)*29+(p:Int) / (len:Int)*53).toNat,by omega,by omega⟩;rw[hX];clear hX a3 a4 y2 y3 q2 q3 i1 i2 i3 i4 t1 t2 j1 j2 a5 a6;obtain⟨x1,x2⟩:=Rk X (X / 64) (by omega) (by omega);rw[show ((X / 64:Nat):Int)=(X:Int) / 64 by omega] at x1 x2;go_wp2;go_ret;exact⟨⟨_,rfl,Int.emod_nonneg _ (by omega),λ_=>Int.emod_lt_of_pos _ (by omega)⟩,Rd.drewN HR.out nq,KH hg nq⟩
theorem Jm(rb len N:Nat)(v:Value)(ss:List BA)(n g o c:Nat)(w:World)(hl:ss.length=n)(hR:Rd w rb v len N)(hN:N<=1000000)(hS:F9 w g o ss)(hne:g≠rb)(hpos:0<n)(hbig:n<=1000):
  Calls prog 159 #[Pz rb 0,Sy g o n c] w
   λe w'=>(∃s∈ss,e=.returned (Tz s))/\Rd w' rb v len (N+1)/\w.grownBy w' (some rb):=by
 go_in;go_wp2_with fail;refine (Er rb len N v _ w hR hN).mono ?_;rintro e w1 ⟨⟨x,rfl,a5,a1⟩,a3,a2⟩;have a4:=a1 (by omega);obtain⟨k,rfl⟩:∃k:Nat,x=(k:Int):=⟨x.toNat,by omega⟩;have hk:k<n:=by omega
 have a0:=(hS.kept a2 hne) k (ss[k]'(by omega)) (by simp);have Hm:Hid (ss[k]'(by omega)∈ss):=by show _∈_;simp
 generalize ss[k]'(by omega)=s at *;clear a1 hS;go_wp2_with fail;go_ret;exact⟨⟨s,Hm.out,rfl⟩,a3,a2⟩
def Jy(ps:List Bv):Prop:=∀p∈ps,p.1.nm.size<=maxLen/\p.1.has.length<=40/\p.1.nj.length<=40/\(∀s∈p.1.has,s.size<=maxLen)/\∀s∈p.1.nj,s.size<=maxLen
theorem Jy.snoc{ps:List Bv}(h:Jy ps){p:Bv}(h1:p.1.nm.size<=maxLen)(h2:p.1.has.length<=40)(h3:p.1.nj.length<=40)(h4:∀s∈p.1.has,s.size<=maxLen)(h5:∀s∈p.1.nj,s.size<=maxLen):Jy (ps++[p]):=λx hx=>by
 rcases D0.1 hx with hx|hx
 ·exact h x hx
 ·obtain rfl:x=p:=by simpa using hx
  exact⟨h1,h2,h3,h4,h5⟩
theorem Hi(ss:List BA)(u v:Value)(w:World)(h:Ls w u ss)(h2:Ls w v ss):
  Calls prog 86 #[u,v] w λe w'=>e=.returned (.bool true)/\Up w w':=by
 obtain⟨a,c,rfl,hn,-,a1⟩:=h;obtain⟨a2,c2,rfl,-,-,a0⟩:=h2;unfold maxLen at hn;go_in;go_wp2_with fail;(try dsimp only[Iz,Sz,Sy,Nz,Vz,Tz,Ez,Pz]);go_loopw [5] (λi w'=>∃k:Nat,k<=ss.length/\i=.int .i64 k/\Up w w') (λi _=>ss.length-(intOf i).toNat)
 case atStart=>exact⟨0,by omega,rfl,A5 _ _⟩
 case round =>
  obtain⟨k,hk,rfl,hB⟩:=hrel;by_cases hp:k<ss.length
  ·obtain⟨b,o,rfl,hS,hb⟩:=a1 (by omega);obtain⟨b2,o2,rfl,a3,a4⟩:=a0 (by omega);have c0:=(hB.cell (p:=⟨b,o+k,none⟩) hb).trans (hS.cell hp);have c1:=(hB.cell (p:=⟨b2,o2+k,none⟩) a4).trans (a3.cell hp);generalize ss[k]=s0 at *;go_wp2_with fail;go_quiet (fail);go_wp2_with fail;go_roundw
   case rel=>exact⟨k+1,by omega,by go_num,G4 hB _⟩
   case measure=>simp[intOf];omega
  ·go_wp2_with fail;go_ret;exact⟨rfl,hB⟩
theorem SV(b:Bk)(u v:Value)(w:World)(h:Q6 w u b)(h2:Q6 w v b):
  Calls prog 33 #[u,v] w λe w'=>e=.returned (.bool true)/\Up w w':=by
 obtain⟨a1,c1,a2,c2,rfl,l1,m1⟩:=h.parts;obtain⟨a3,c3,a4,c4,rfl,l2,m2⟩:=h2.parts;clear h h2;go_in;go_upto_region 1 with fail;obtain⟨W1,b9,kA,kX,b4,c6⟩:=cbE2 w [Vz a1 b.tg.length c1,Vz a2 b.bs.length c2] 26 [Vz a3 b.tg.length c3,Vz a4 b.bs.length c4] 26;try rw[b9]
 clear b9;obtain⟨p0,p1⟩:=kA.c2';obtain⟨q0,q1⟩:=kX.c2';go_wp2_with fail;refine (Hi b.tg _ _ _ (l1.up b4) (l2.up b4)).mono ?_;rintro e w2 ⟨rfl,b3⟩;have c9:=b3.size;have kA:=kA.up b3 (by omega);have kX:=kX.up b3 (by omega);have b8:=D5 b4 b3;have m1:=m1.up b8;have m2:=m2.up b8;clear p0 p1 q0 q1 b3 b4 c6;obtain⟨p0,p1⟩:=kA.c2';obtain⟨q0,q1⟩:=kX.c2';obtain⟨hn,b2⟩:=m1.at;obtain⟨-,b0⟩:=m2.at;have c5:=kA.2.2;have c8:=kX.2.2;unfold maxLen at hn;go_wp2_with fail;(try dsimp only[Iz,Sz,Sy,Nz,Vz,Tz,Ez,Pz]);go_loopw [5] (λi w'=>∃k:Nat,k<=b.bs.length/\i=.int .i64 k/\Up w2 w') (λi _=>b.bs.length-(intOf i).toNat)
 case atStart=>exact⟨0,by omega,rfl,A5 _ _⟩
 case round =>
  obtain⟨k,hk,rfl,hB⟩:=hrel;have r1:=(hB.cell (p:=⟨w.heap.size,1,none⟩) c5).trans p1;by_cases hp:k<b.bs.length
  ·obtain⟨g,p,rfl,hS,hb⟩:=b2 (by omega);obtain⟨g',p',rfl,c0,b7⟩:=b0 (by omega);obtain⟨a5,d5,a6,d6,e3,e4,e5,l3,l4,-⟩:=(hS.at hp).cells;obtain⟨a7,d7,a8,d8,e6,e7,e8,l5,l6,-⟩:=(c0.at hp).cells;generalize b.bs[k]=x0 at *;have Mk:Hid (∀X,Up w2 X->(At X w.heap.size 1 (Sy g p b.bs.length c2)/\At X (w.heap.size+1) 1 (Sy g' p' b.bs.length c4)/\At X g (p+k*3) (Tz x0.nm)/\At X g (p+k*3+1) (Vz a5 x0.has.length d5)/\At X g (p+k*3+2) (Vz a6 x0.nj.length d6)/\At X g' (p'+k*3) (Tz x0.nm)/\At X g' (p'+k*3+1) (Vz a7 x0.has.length d7)/\At X g' (p'+k*3+2) (Vz a8 x0.nj.length d8))):=λX hX=>⟨(hX.cell (p:=⟨w.heap.size,1,none⟩) c5).trans p1,(hX.cell (p:=⟨w.heap.size+1,1,none⟩) c8).trans q1,(hX.cell (p:=⟨g,p+k*3,none⟩) hb).trans e3,(hX.cell (p:=⟨g,p+k*3+1,none⟩) hb).trans e4,(hX.cell (p:=⟨g,p+k*3+2,none⟩) hb).trans e5,(hX.cell (p:=⟨g',p'+k*3,none⟩) b7).trans e6,(hX.cell (p:=⟨g',p'+k*3+1,none⟩) b7).trans e7,(hX.cell (p:=⟨g',p'+k*3+2,none⟩) b7).trans e8⟩;clear e3 e4 e5 e6 e7 e8 hS c0 p0 q0 p1 q1 b2 b0;go_upto_region 6 with fail;clear r1;go_cut [72] (λv72 wc=>v72=.bool false/\Up w2 wc)
   case first =>
    have a0:=Mk.out wr.drew hB.drew;refine F5 99 (λw'=>(At w' w.heap.size 1 (Sy g p b.bs.length c2)/\At w' (w.heap.size+1) 1 (Sy g' p' b.bs.length c4)/\At w' g (p+k*3) (Tz x0.nm)/\At w' g (p+k*3+1) (Vz a5 x0.has.length d5)/\At w' g (p+k*3+2) (Vz a6 x0.nj.length d6)/\At w' g' (p'+k*3) (Tz x0.nm)/\At w' g' (p'+k*3+1) (Vz a7 x0.has.length d7)/\At w' g' (p'+k*3+2) (Vz a8 x0.nj.length d8))) (by kernel_rfl) ?_;refine D6 0 rfl a0 ?_;refine D6 1 rfl a0 ?_;refine D6 2 rfl a0 ?_;refine D6 3 rfl a0 ?_;refine D6 4 rfl a0 ?_;refine D6 5 rfl a0 ?_;refine D6 6 rfl a0 ?_;refine D6 7 rfl a0 ?_;refine D6 8 rfl a0 ?_;refine D6 9 rfl a0 ?_;refine D6 10 rfl a0 ?_;refine D6 11 rfl a0 ?_;refine D6 12 rfl a0 ?_;refine D6 13 rfl a0 ?_;refine D6 14 rfl a0 ?_;refine D6 15 rfl a0 ?_;refine D6 16 rfl a0 ?_;refine D6 17 rfl a0 ?_;refine D6 18 rfl a0 ?_;refine D6 19 rfl a0 ?_;refine D6 20 rfl a0 ?_;refine D6 21 rfl a0 ?_;refine D6 22 rfl a0 ?_;refine D6 23 rfl a0 ?_;refine D6 24 rfl a0 ?_;refine D6 25 rfl a0 ?_;refine E7 26 rfl (λK hK=>?_);go_simp;go_wp2_with (go_at_call 86;refine (Hi x0.has _ _ _ (l3.up hB.drew) (l5.up hB.drew)).mono ?_;rintro e w5 ⟨rfl,b1⟩;have b1:=D5 hB.drew b1;have a9:=Mk.out _ b1)
    refine E6 hK a9 ?_;clear hK K;refine D6 27 rfl a9 ?_;refine D6 28 rfl a9 ?_;refine D6 29 rfl a9 ?_;refine D6 30 rfl a9 ?_;refine D6 31 rfl a9 ?_;refine D6 32 rfl a9 ?_;refine D6 33 rfl a9 ?_;refine D6 34 rfl a9 ?_;refine D6 35 rfl a9 ?_;refine D6 36 rfl a9 ?_;refine D6 37 rfl a9 ?_;refine D6 38 rfl a9 ?_;refine D6 39 rfl a9 ?_;refine D6 40 rfl a9 ?_;refine D6 41 rfl a9 ?_;refine E7 42 rfl (λK hK=>?_);go_simp;go_wp2_with (go_at_call 86;refine (Hi x0.nj _ _ _ (l4.up b1) (l6.up b1)).mono ?_;rintro e w6 ⟨rfl,b5⟩;have b5:=D5 b1 b5;have b6:=Mk.out _ b5)
    refine E6 hK b6 ?_;clear hK K;refine D6 43 rfl b6 ?_;refine E7 44 rfl (λK hK=>?_);go_simp;refine E6 hK b6 ?_;clear hK K;refine F0 (by kernel_rfl) ?_ _;clear a0 a9 b6 Mk;go_wp2_with fail;go_meet
    case rel=>exact⟨rfl,b5⟩
   case rest =>
    obtain⟨rfl,c7⟩:=hcut;go_wp2_with fail;go_roundw
    case rel=>exact⟨k+1,by omega,by go_num,c7⟩
    case measure=>simp[intOf];omega
  ·go_wp2_with fail;go_ret;exact⟨rfl,D5 b8 hB⟩
theorem PR(ps:List Ph)(b o b2 o2 cA cB:Nat)(w:World)(hr:M2 w b o ps)(hb:b<w.heap.size)(hr2:M2 w b2 o2 ps)(hb2:b2<w.heap.size)(hn:ps.length<=1048576):
  Calls prog 51 #[Sy b o ps.length cA,Sy b2 o2 ps.length cB] w λe w'=>e=.returned (.bool true)/\Up w w':=by
 go_in;go_wp2_with fail;(try dsimp only[Iz,Sz,Sy,Nz,Vz,Tz,Ez,Pz]);go_loopw [5] (λi w'=>∃k:Nat,k<=ps.length/\i=.int .i64 k/\Up w w') (λi _=>ps.length-(intOf i).toNat)
 case atStart=>exact⟨0,by omega,rfl,A5 _ _⟩
 case round =>
  obtain⟨k,hk,rfl,hB⟩:=hrel;by_cases hp:k<ps.length
  ·obtain⟨c0,c1,c2,c3,c4,c5,c6,c7⟩:=(hr.up hB hb).cells k hp;obtain⟨d0,d1,d2,d3,d4,d5,d6,d7⟩:=(hr2.up hB hb2).cells k hp;generalize ps[k]=p0 at *;go_wp2_with fail;go_quiet (fail);go_wp2_with fail;go_roundw
   case rel=>exact⟨k+1,by omega,by go_num,G4 hB _⟩
   case measure=>simp[intOf];omega
  ·go_wp2_with fail;go_ret;exact⟨rfl,hB⟩
theorem T1.openW{w:World}{x:Rb}{p q c d:Nat}(h:T1 w x (Sy p q x.ps.length c) (Sy g r x.sl.length d)):M2 w p q x.ps/\p<w.heap.size/\DK w g r x.sl/\g<w.heap.size:=by
 obtain⟨p',q',c',e,h1,h2,-⟩:=h.r;obtain⟨g',r',d',e',h3,h4⟩:=h.s;simp only[Value.slice.injEq,Option.some.injEq,Addr.mk.injEq] at e e';obtain⟨⟨rfl,rfl,-⟩,-,rfl⟩:=e;obtain⟨⟨rfl,rfl,-⟩,-,rfl⟩:=e';exact⟨h1,h2,h3,h4⟩
theorem KN(x:Rb)(p q c g r d p' q' c' g' r' d':Nat)(w:World)(h:T1 w x (Sy p q x.ps.length c) (Sy g r x.sl.length d))(h':T1 w x (Sy p' q' x.ps.length c') (Sy g' r' x.sl.length d')):
  Calls prog 11 #[.agg #[Tz x.nm,Sy p q x.ps.length c,Sy g r x.sl.length d,Tz x.ad,Iz x.si,Iz x.st],.agg #[Tz x.nm,Sy p' q' x.ps.length c',Sy g' r' x.sl.length d',Tz x.ad,Iz x.si,Iz x.st]] w λe w'=>e=.returned (.bool true)/\Up w w':=by
 have np:=h.np;have ns:=h.ns;go_in;go_upto_region 1 with fail;obtain⟨W1,a3,kP,kR,a1,a4⟩:=cbE2 w [Tz x.nm,Sy p q x.ps.length c,Sy g r x.sl.length d,Tz x.ad,Iz x.si,Iz x.st] 40 [Tz x.nm,Sy p' q' x.ps.length c',Sy g' r' x.sl.length d',Tz x.ad,Iz x.si,Iz x.st] 40;rw[a3];clear a3;obtain⟨d0,d1,d2,d3,d4,d5⟩:=kP.c6;obtain⟨e0,e1,e2,e3,e4,e5⟩:=kR.c6;obtain⟨o1,l1,-,-⟩:=(h.up a1).openW;obtain⟨o2,l2,-,-⟩:=(h'.up a1).openW;go_wp2_with fail;refine (PR x.ps p q p' q' _ _ _ o1 l1 o2 l2 np).mono ?_;rintro e w2 ⟨rfl,a2⟩;have a0:=D5 a1 a2;clear d0 d1 d2 d3 d4 d5 e0 e1 e2 e3 e4 e5 o1 o2 l1 l2;have hP:=kP.up a2 (by omega);have hR:=kR.up a2 (by omega);have zP:=hP.2.2;have zR:=hR.2.2;obtain⟨d0,d1,d2,d3,d4,d5⟩:=hP.c6;obtain⟨e0,e1,e2,e3,e4,e5⟩:=hR.c6;obtain⟨-,-,o1,l1⟩:=(h.up a0).openW;obtain⟨-,-,o2,l2⟩:=(h'.up a0).openW;go_wp2_with fail;clear d0 d1 d3 d4 d5 e0 e1 e3 e4 e5;(try dsimp only[Iz,Sz,Sy,Nz,Vz,Tz,Ez,Pz]);go_loopw [5] (λi w'=>∃k:Nat,k<=x.sl.length/\i=.int .i64 k/\Up w2 w') (λi _=>x.sl.length-(intOf i).toNat)
 case atStart=>exact⟨0,by omega,rfl,A5 _ _⟩
 case round =>
  obtain⟨k,hk,rfl,hB⟩:=hrel;have f2:=(hB.cell (p:=⟨w.heap.size,2,none⟩) zP).trans d2;have g2:=(hB.cell (p:=⟨w.heap.size+1,2,none⟩) zR).trans e2;by_cases hp:k<x.sl.length
  ·obtain⟨c0,c1⟩:=(o1.up hB l1).cells k hp;obtain⟨b0,b1⟩:=(o2.up hB l2).cells k hp;clear d2 e2;generalize x.sl[k]=s0 at *;go_wp2_with fail;go_quiet (fail);go_wp2_with fail;go_roundw
   case rel=>exact⟨k+1,by omega,by go_num,G4 hB _⟩
   case measure=>simp[intOf];omega
  ·clear d2 e2;go_wp2_with fail;go_ret;exact⟨rfl,D5 a0 hB⟩
theorem Hj(h:House)(t1 k1 x1 d1 t2 k2 x2 d2:Value)(w:World)(H1:HV w h t1 k1 x1 d1)(H2:HV w h t2 k2 x2 d2):
  Calls prog 7 #[.agg #[Iz h.now,Iz h.last,t1,k1,x1,d1],.agg #[Iz h.now,Iz h.last,t2,k2,x2,d2]] w λe w'=>e=.returned (.bool true)/\Up w w':=by
 obtain⟨a1,c1,a2,c2,a3,c3,a4,c4,rfl,rfl,rfl,rfl⟩:=H1.shapes;obtain⟨a5,c5,a6,c6,a7,c7,a8,c8,rfl,rfl,rfl,rfl⟩:=H2.shapes;go_in;go_upto_region 1 with fail;obtain⟨W1,d5,kP,kR,b5,e8⟩:=cbE2 w (Hcz h a1 c1 a2 c2 a3 c3 a4 c4) 30 (Hcz h a5 c5 a6 c6 a7 c7 a8 c8) 30;rw[d5];clear d5;obtain⟨e0,e1,e2,e3,e4,e5⟩:=kP.c6;obtain⟨f0,f1,f2,f3,f4,f5⟩:=kR.c6;go_wp2_with fail;refine (SV h.sh _ _ _ (H1.up b5).book (H2.up b5).book).mono ?_;rintro e w2 ⟨rfl,d4⟩;have a0:=D5 b5 d4;clear e0 e1 e2 e3 e4 e5 f0 f1 f2 f3 f4 f5;have hP:=kP.up d4 (by omega);have hR:=kR.up d4 (by omega);have zP:=hP.2.2;have zR:=hR.2.2;obtain⟨e0,e1,e2,e3,e4,e5⟩:=hP.c6;obtain⟨f0,f1,f2,f3,f4,f5⟩:=hR.c6;have G1:=H1.up a0;have G2:=H2.up a0;obtain⟨_,_,d6,e9,b6⟩:=G1.x;obtain⟨_,_,d7,-,b7⟩:=G2.x;obtain⟨_,_,d8,f6,b8⟩:=G1.d;obtain⟨_,_,d9,-,b9⟩:=G2.d;simp only[Value.slice.injEq,true_and] at d6 d7 d8 d9;obtain⟨rfl,rfl⟩:=d6;obtain⟨rfl,rfl⟩:=d7;obtain⟨rfl,rfl⟩:=d8;obtain⟨rfl,rfl⟩:=d9;clear H1 H2 G1 G2 hP hR kP kR;unfold maxLen at e9 f6;go_wp2_with fail;clear e0 e1 e2 e3 f0 f1 f2 f3;(try dsimp only[Iz,Sz,Sy,Nz,Vz,Tz,Ez,Pz]);go_loopw [5] (λi w'=>∃k:Nat,k<=h.bs.length/\i=.int .i64 k/\Up w2 w') (λi _=>h.bs.length-(intOf i).toNat)
 case atStart=>exact⟨0,by omega,rfl,A5 _ _⟩
 case round =>
  obtain⟨k,hk,rfl,hB⟩:=hrel;have i4:=(hB.cell (p:=⟨w.heap.size,4,none⟩) zP).trans e4;have j4:=(hB.cell (p:=⟨w.heap.size+1,4,none⟩) zR).trans f4;by_cases hp:k<h.bs.length
  ·clear b8 b9 e4 e5 f4 f5;obtain⟨b1,o1,g1,b3,c0⟩:=b6 (by omega);obtain⟨b2,o2,g2,b4,c9⟩:=b7 (by omega);subst g1 g2;obtain⟨p,q,c,g,r,d,⟨y0,y1,y2,y3,y4,y5⟩,e6⟩:=((b3.up hB c0).at hp).open;obtain⟨p',q',c',g',r',d',⟨z0,z1,z2,z3,z4,z5⟩,e7⟩:=((b4.up hB c9).at hp).open;generalize h.bs[k]=x0 at *;have Ho1:Hid (T1 wr x0 (Sy p q x0.ps.length c) (Sy g r x0.sl.length d)):=e6;have Ho2:Hid (T1 wr x0 (Sy p' q' x0.ps.length c') (Sy g' r' x0.sl.length d')):=e7;clear e6 e7 b6 b7 b3 b4;go_wp2_with fail;go_region_with (go_at_call 11;refine (KN x0 p q c g r d p' q' c' g' r' d' _ (Ho1.out.up (A5 _ _).drew) (Ho2.out.up (A5 _ _).drew)).mono ?_;rintro e w3 ⟨rfl,f8⟩)
   all_goals
    have f7:=D5 hB.drew f8;clear y0 y1 y2 y3 y4 y5 z0 z1 z2 z3 z4 z5 i4 j4;go_wp2_with fail;go_roundw
    case rel=>exact⟨k+1,by omega,by go_num,f7⟩
    case measure=>simp[intOf];omega
  ·clear b6 b7 e8 e4 f4;have zP:=A2 zP hB.size;have zR:=A2 zR hB.size;have e5:=(hB.cell (p:=⟨w.heap.size,5,none⟩) (by omega)).trans e5;have f5:=(hB.cell (p:=⟨w.heap.size+1,5,none⟩) (by omega)).trans f5;have a9:=λhp=>(b8 hp).imp λ_ x=>x.imp λ_ y=>And.intro y.1 (And.intro (y.2.1.up hB y.2.2) (A2 y.2.2 hB.size));have b0:=λhp=>(b9 hp).imp λ_ x=>x.imp λ_ y=>And.intro y.1 (And.intro (y.2.1.up hB y.2.2) (A2 y.2.2 hB.size));have d3:=D5 a0 hB;clear b8 b9 hB a0;go_wp2_with fail;clear i4 j4;(try dsimp only[Iz,Sz,Sy,Nz,Vz,Tz,Ez,Pz]);go_loopw [6] (λi w'=>∃k:Nat,k<=h.ds.length/\i=.int .i64 k/\Up wr w') (λi _=>h.ds.length-(intOf i).toNat)
   case atStart=>exact⟨0,by omega,rfl,A5 _ _⟩
   case round =>
    obtain⟨m,hm,rfl,hC⟩:=hrel;have i5:=(hC.cell (p:=⟨w.heap.size,5,none⟩) zP).trans e5;have j5:=(hC.cell (p:=⟨w.heap.size+1,5,none⟩) zR).trans f5;by_cases hq:m<h.ds.length
    ·obtain⟨b1,o1,g1,b3,c0⟩:=a9 (by omega);obtain⟨b2,o2,g2,b4,c9⟩:=b0 (by omega);subst g1 g2;have y:=((b3.up hC c0) m _ (A0 hq)).1;have z:=((b4.up hC c9) m _ (A0 hq)).1;generalize h.ds[m]=d0 at *;have y0:At _ b1 (o1+m*3) (Tz d0.nm):=y 0 _ rfl;have y1:At _ b1 (o1+m*3+1) (Iz d0.e):=y 1 _ rfl;have y2:At _ b1 (o1+m*3+2) (Iz d0.t):=y 2 _ rfl;have z0:At _ b2 (o2+m*3) (Tz d0.nm):=z 0 _ rfl;have z1:At _ b2 (o2+m*3+1) (Iz d0.e):=z 1 _ rfl;have z2:At _ b2 (o2+m*3+2) (Iz d0.t):=z 2 _ rfl;clear e5 f5 y z a9 b0 b3 b4;go_wp2_with fail;go_quiet (fail);go_wp2_with fail;go_roundw
     case rel=>exact⟨m+1,by omega,by go_num,G4 hC _⟩
     case measure=>simp[intOf];omega
    ·clear e5 f5 a9 b0;go_wp2_with fail;go_ret;exact⟨rfl,D5 d3 hC⟩
theorem S4.w{w:World}{v:Value}(h:S4 w base v b):L6 w base v b:=by
 obtain⟨a1,c1,a2,c2,ps,rfl,h1,h2,h3⟩:=h;exact⟨_,_,ps,rfl,h3.own _ List.mem_cons_self,h1,h2⟩
theorem S4.bk{w:World}{v:Value}(h:S4 w base v b)(hz:Y0 b):Q6 w v b:=h.w.bk hz
theorem S4.step{w:World}{v:Value}(h:S4 w base v b)(hrow:w.ownsRow b2 e k u n xs)(h1:9≠e)(h2:115≠e)(hg:w.grownBy w' u.ownBlock):S4 w' base v b:=by
 obtain⟨a1,c1,a2,c2,ps,rfl,hB,hm,hF⟩:=h;exact⟨a1,c1,a2,c2,ps,rfl,⟨E5 hB.1 hg (E9 hB.1 hrow h2),λp hp=>⟨E5 (hB.2 p hp).1 hg (E9 (hB.2 p hp).1 hrow h1),E5 (hB.2 p hp).2.1 hg (E9 (hB.2 p hp).2.1 hrow h1),(hB.2 p hp).2.2⟩⟩,hm,hF.keep λf _ ho=>E5 ho hg (E9 ho hrow h1)⟩
def CZ(w:World)(base:Nat)(v:Value)(ps:List Rv):Prop:=V3 w base v ps/\(ps.map (·.2.1)).Pairwise Ap/\(ps.map (·.2.2)).Pairwise Ap
theorem CZ.up{w:World}{v:Value}(h:CZ w base v ps)(hb:Up w w'):CZ w' base v ps:=⟨h.1.up hb,h.2⟩
theorem CZ.low{w:World}{v:Value}(h:CZ w base v ps)(hb:base'<=base):CZ w base' v ps:=⟨h.1.low hb,h.2⟩
theorem CZ.step{w:World}{v:Value}(h:CZ w base v ps)(hrow:w.ownsRow b2 e k u n xs)(h1:40≠e)(h2:43≠e)(h3:58≠e)(hg:w.grownBy w' u.ownBlock):CZ w' base v ps :=
 ⟨⟨E5 h.1.1 hg (E9 h.1.1 hrow h1),λp hp=>(h.1.2 p hp).step hrow h2 h3 hg⟩,h.2⟩
def WU(w:World)(base:Nat)(v:Value)(ds:List K0):Prop:=w.ownsRow base 74 3 v ds.length (F8 K0.cells ds)/\∀d∈ds,d.nm.size<=maxLen
theorem WU.dns{w:World}{v:Value}{ds:List K0}(h:WU w base v ds):Nm w v ds:=by
 obtain⟨a,c,rfl⟩:=I7 h.1;refine⟨a,c,rfl,EF h.1,λhp=>?_⟩;obtain⟨g,a0,e⟩:=I6 h.1 hp;simp only[Value.slice.injEq] at e;obtain⟨rfl,-,rfl⟩:=e;exact⟨g,0,rfl,λi d hd=>⟨by rw[Nat.zero_add];exact V2 U4 h.1 hd,h.2 d (A7 hd)⟩,(h.1.lt g rfl).2⟩
structure HP (w:World) (base:Nat) (h:House) (tv bv xv dv:Value):Prop where
 k:S4 w base (.agg #[tv,bv]) h.sh
 z:Y0 h.sh
 x:∃ps,CZ w base xv ps/\ps.map (·.1)=h.bs
 d:WU w base dv h.ds
theorem HP.v{w:World}(H:HP w base h tv bv xv dv):HV w h tv bv xv dv:=by
 obtain⟨ps,h1,h2⟩:=H.x;obtain⟨t,b,e,k1,k2⟩:=H.k.bk H.z;simp at e;obtain⟨rfl,rfl⟩:=e;exact⟨k1,k2,h1.1.rbs h2,H.d.dns⟩
theorem HP.up{w:World}(H:HP w base h tv bv xv dv)(hb:Up w w'):HP w' base h tv bv xv dv :=
 ⟨H.k.up hb,H.z,H.x.imp λ_ x=>⟨x.1.up hb,x.2⟩,⟨E4 H.d.1 hb,H.d.2⟩⟩
theorem HP.low{w:World}(H:HP w base h tv bv xv dv)(hb:base'<=base):HP w base' h tv bv xv dv :=
 ⟨H.k.low hb,H.z,H.x.imp λ_ x=>⟨x.1.low hb,x.2⟩,⟨I8 H.d.1 hb,H.d.2⟩⟩
theorem HP.box{w:World}{v:Value}(H:HP w base h tv bv xv dv)(hrow:w.ownsRow b2 30 6 v n xs)(hg:w.grownBy w' v.ownBlock):HP w' base h tv bv xv dv :=
 ⟨H.k.step hrow (by decide) (by decide) hg,H.z,H.x.imp λ_ x=>⟨x.1.step hrow (by decide) (by decide) (by decide) hg,x.2⟩,⟨E5 H.d.1 hg (E9 H.d.1 hrow (by decide)),H.d.2⟩⟩
theorem S4.gr{w:World}{v:Value}(h:S4 w base v b)(hg:w.grownBy w' (some r))(hr:r<base):S4 w' base v b:=by
 obtain⟨a1,c1,a2,c2,ps,rfl,hB,hm,hF⟩:=h;exact⟨a1,c1,a2,c2,ps,rfl,⟨F2 hB.1 hg hr,λp hp=>⟨F2 (hB.2 p hp).1 hg hr,F2 (hB.2 p hp).2.1 hg hr,(hB.2 p hp).2.2⟩⟩,hm,hF.gr hg hr⟩
theorem HP.gr{w:World}(H:HP w base h tv bv xv dv)(hg:w.grownBy w' (some r))(hr:r<base):HP w' base h tv bv xv dv :=
 ⟨H.k.gr hg hr,H.z,H.x.imp λ_ x=>⟨⟨x.1.1.gr hg hr,x.1.2⟩,x.2⟩,⟨F2 H.d.1 hg hr,H.d.2⟩⟩
theorem KD(h:vs.Pairwise Ap)(hu:∀v∈vs,Ap v u):(vs++[u]).Pairwise Ap :=
 List.pairwise_append.2 ⟨h,List.pairwise_singleton _ _,λv hv x hx=>by obtain rfl:=D1.1 hx;exact hu v hv⟩
theorem Mm{w:World}{e' s s' n':Nat}{v:Value}(h:w.ownsRow base e s v n xs)(h':w'.ownsRow base' e' s' u n' xs')(hb:w.heap.size<=base'):Ap v u:=λg hg hu=>by
 have h1:=(h.lt g hg).2;have h2:=(h'.lt g hu).1;omega
end Go.Proofs.YtmonodehegcfhaaGreatDoor
