/- The program's chapter 13: what is asked, behind its interface. -/
import Derived.Test.YtebfdccbmmpceaaGreatDoorJ7
import Derived.Test.YtebfdccbmmpceaaGreatDoorKr3
import Derived.Test.YtebfdccbmmpceaaGreatDoorJ0
import Derived.LaidEql
import Derived.Stop.Asserts
import Derived.RowKitTokens
set_option maxRecDepth 20000
set_option maxHeartbeats 8000000
namespace Go.Proofs.YtebfdccbmmpceaaGreatDoor
open Go.RowKit
theorem Ai8 (n:Nat) (nm:Value) (w:World):(Go.method (n+1) 236 (.agg #[nm]) "loop.example/maltrun/impl.who").run Tryz.prog w=.ok (269,.agg #[nm]) w:=by kernel_rfl
theorem Ai9 (n:Nat) (nm x:Value) (w:World):(Go.method (n+1) 213 (.agg #[nm,x]) "loop.example/maltrun/impl.who").run Tryz.prog w=.ok (269,.agg #[nm]) w:=by kernel_rfl
theorem AiA (n:Nat) (nm x:Value) (w:World):(Go.method (n+1) 203 (.agg #[nm,x]) "loop.example/maltrun/impl.who").run Tryz.prog w=.ok (269,.agg #[nm]) w:=by kernel_rfl
theorem AnA (n:Nat) (nm:Value) (w:World):(Go.method (n+1) 236 (.agg #[nm]) "loop.example/maltrun/impl.refusal").run Tryz.prog w=.ok (275,.agg #[nm]) w:=by kernel_rfl
theorem AnB (n:Nat) (nm x:Value) (w:World):(Go.method (n+1) 213 (.agg #[nm,x]) "loop.example/maltrun/impl.refusal").run Tryz.prog w=.ok (274,.agg #[nm,x]) w:=by kernel_rfl
theorem AnC (n:Nat) (nm x:Value) (w:World):(Go.method (n+1) 203 (.agg #[nm,x]) "loop.example/maltrun/impl.refusal").run Tryz.prog w=.ok (270,.agg #[nm,x]) w:=by kernel_rfl
theorem ta_VE (v:Value) (w:World):(Instr.typeAssert (.iface 236 v) 225 288 true).run Tryz.prog w=.ok (.tuple #[.agg #[.string ⟨#[]⟩,.slice none 0 0],.bool false]) w:=by kernel_rfl
theorem ta_VA (v:Value) (w:World):(Instr.typeAssert (.iface 236 v) 225 203 true).run Tryz.prog w=.ok (.tuple #[.agg #[.string ⟨#[]⟩,.slice none 0 0],.bool false]) w:=by kernel_rfl
theorem ta_VL (v:Value) (w:World):(Instr.typeAssert (.iface 236 v) 225 213 true).run Tryz.prog w=.ok (.tuple #[.agg #[.string ⟨#[]⟩,.slice none 0 0],.bool false]) w:=by kernel_rfl
theorem ta_VV (v:Value) (w:World):(Instr.typeAssert (.iface 236 v) 225 236 true).run Tryz.prog w=.ok (.tuple #[v,.bool true]) w:=by kernel_rfl
theorem ta_LE (v:Value) (w:World):(Instr.typeAssert (.iface 213 v) 225 288 true).run Tryz.prog w=.ok (.tuple #[.agg #[.string ⟨#[]⟩,.slice none 0 0],.bool false]) w:=by kernel_rfl
theorem ta_LA (v:Value) (w:World):(Instr.typeAssert (.iface 213 v) 225 203 true).run Tryz.prog w=.ok (.tuple #[.agg #[.string ⟨#[]⟩,.slice none 0 0],.bool false]) w:=by kernel_rfl
theorem ta_LL (v:Value) (w:World):(Instr.typeAssert (.iface 213 v) 225 213 true).run Tryz.prog w=.ok (.tuple #[v,.bool true]) w:=by kernel_rfl
theorem ta_AE (v:Value) (w:World):(Instr.typeAssert (.iface 203 v) 225 288 true).run Tryz.prog w=.ok (.tuple #[.agg #[.string ⟨#[]⟩,.slice none 0 0],.bool false]) w:=by kernel_rfl
theorem ta_AA (v:Value) (w:World):(Instr.typeAssert (.iface 203 v) 225 203 true).run Tryz.prog w=.ok (.tuple #[v,.bool true]) w:=by kernel_rfl
theorem ru_V (args:Array Value) (w:World):(callFunc 275 args).run Tryz.prog w=.ok (.enter 275 args) w:=by kernel_rfl
theorem ru_L (args:Array Value) (w:World):(callFunc 274 args).run Tryz.prog w=.ok (.enter 274 args) w:=by kernel_rfl
theorem ru_A (args:Array Value) (w:World):(callFunc 270 args).run Tryz.prog w=.ok (.enter 270 args) w:=by kernel_rfl
theorem Agr (b:Bk) (v:Value) (nm:ByteArray) (w:World) (h:BkV w v b) (hok:BookOk b) :
  Calls Tryz.prog 275 #[.agg #[.string nm],v] w λe w'=>e=.returned (refV (ofC b nm []))/\Below w.heap.size w w':=by
 obtain⟨a1,c1,a2,c2,rfl,-,-⟩:=h.parts;obtain⟨W1,hW1,kA,kB,hB1,hs1⟩:=L1 w [.string nm] 236 [.slice a1 (b).things.length c1,.slice a2 (b).bs.length c2] 33;go_enter Tryz.func275,Tryz.ntmps275
 go_upto_region 1 with fail
 try rw[hW1]
 clear hW1;have hk:=h.up hB1;have e0:W1.cell? ⟨w.heap.size,0,none⟩=some (.string nm):=kA.1 0 _ rfl;obtain⟨d0,d1⟩:=kB.c2';go_wp2_with fail
 refine (AbE b _ nm _ [] _ hk hok (Ls.nil _ _ _)).mono ?_;rintro e w2 ⟨rfl,hB2⟩;clear d0 d1 e0;go_wp2_with fail
 go_ret
 exact⟨rfl,D6 hB1 hB2⟩
theorem Ah4 (b:Bk) (v:Value) (nm:ByteArray) (lv:Value) (ls:List ByteArray) (w:World) (h:BkV w v b) (hok:BookOk b) (hl:Ls w lv ls) :
  Calls Tryz.prog 274 #[.agg #[.string nm,lv],v] w λe w'=>e=.returned (refV (ofC b nm ls))/\Below w.heap.size w w':=by
 obtain⟨a1,c1,a2,c2,rfl,-,-⟩:=h.parts;obtain⟨la,lc,rfl,-⟩:=id hl;obtain⟨W1,hW1,kA,kB,hB1,hs1⟩:=L1 w [.string nm,.slice la ls.length lc] 213 [.slice a1 (b).things.length c1,.slice a2 (b).bs.length c2] 33;go_enter Tryz.func274,Tryz.ntmps274
 go_upto_region 1 with fail
 try rw[hW1]
 clear hW1;have hk:=h.up hB1;have hl1:=hl.up hB1;obtain⟨e0,e1⟩:=kA.c2';obtain⟨d0,d1⟩:=kB.c2';go_wp2_with fail
 refine (AbE b _ nm _ ls _ hk hok hl1).mono ?_;rintro e w2 ⟨rfl,hB2⟩;clear d0 d1 e0 e1;go_wp2_with fail
 go_ret
 exact⟨rfl,D6 hB1 hB2⟩
theorem AeT {W w0:World} {q:Nat} {x0 x1:Value} (h:Below W.heap.size W w0/\w0.cell? ⟨q,0,none⟩=some x0/\w0.cell? ⟨q,1,none⟩=some x1):Below W.heap.size W w0.drew/\w0.drew.cell? ⟨q,0,none⟩=some x0/\w0.drew.cell? ⟨q,1,none⟩=some x1:=⟨h.1.drew,h.2⟩
theorem Ajh {W w0 w1:World} {q:Nat} {x0 x1:Value} (hq:q<W.heap.size) (h:Below W.heap.size W w0/\w0.cell? ⟨q,0,none⟩=some x0/\w0.cell? ⟨q,1,none⟩=some x1) (hB:Below w0.heap.size w0 w1):Below W.heap.size W w1/\w1.cell? ⟨q,0,none⟩=some x0/\w1.cell? ⟨q,1,none⟩=some x1:=by
 have lq:q<w0.heap.size:=A1 hq h.1.size;exact⟨D6 h.1 hB,(hB.cell (p:=⟨q,0,none⟩) lq).trans h.2.1,(hB.cell (p:=⟨q,1,none⟩) lq).trans h.2.2⟩
theorem Fam.sub {w:World} {B:Nat} {q:Option Nat} {fs gs:List (Value×List ByteArray)} (h:Fam w B q fs) (hs:gs.Sublist fs):Fam w B q gs:=⟨λf hf=>h.own f (hs.subset hf),h.ap.sublist hs,λf hf=>h.av f (hs.subset hf)⟩
theorem AdQ:∀{a b:List Bv},a.Sublist b->(famB a).Sublist (famB b)
 | _,_,.slnil=>List.Sublist.refl _
 | _,_,.cons _ h=>((AdQ h).cons _).cons _
 | _,_,.cons_cons _ h=>((AdQ h).cons_cons _).cons_cons _
def BkF (w:World) (base:Nat) (v:Value) (b:Bk):Prop:=∃a1 c1 a2 c2 ps,v=.agg #[.slice a1 b.things.length c1,.slice a2 b.bs.length c2]/\BsW w base (.slice a2 b.bs.length c2) ps/\ps.map (·.1)=b.bs/\Fam w base none ((.slice a1 b.things.length c1,b.things)::famB ps)
theorem AiB (ps:List Bv) (p:Nat):(ps.take p++ps.drop (p+1)).Sublist ps:=by
 conv=>rhs;rw[← List.take_append_drop p ps]
 exact (List.Sublist.refl _).append (by rw[← List.drop_drop];exact List.drop_sublist _ _)
theorem AfG (b:Bk) (v:Value) (nm:ByteArray) (w:World) (h:BkV w v b) (hok:BookOk b) (hm:memS (nms b.bs) nm=true) :
  Calls Tryz.prog 184 #[v,.iface 236 (.agg #[.string nm])] w λe w'=>(∃u,e=.returned u/\BkF w' w.heap.size u ⟨b.things,b.bs.take (plN b nm)++b.bs.drop (plN b nm+1)⟩)/\Below w.heap.size w w':=by
 have f1:=Ai8;have f2:=ta_VE;have f3:=ta_VA;have f4:=ta_VL;have f5:=ta_VV;obtain⟨a1,c1,a2,c2,rfl,-,-⟩:=h.parts;obtain⟨s1,s2,s3⟩:=O0 hok;obtain⟨W1,hW1,kA,kR,hB1,hs1⟩:=L1 w [.slice a1 (b).things.length c1,.slice a2 (b).bs.length c2] 33 [.slice none 0 0,.slice none 0 0] 33;go_enter Tryz.func184,Tryz.ntmps184
 go_upto_region 1 with fail
 try rw[hW1]
 clear hW1;have hk:=h.up hB1;obtain⟨e0,e1⟩:=kA.c2';go_wp2_with fail
 refine (Z1 b _ _ hk (by omega) (by omega) (λy hy=>by have:=s3 y hy;omega)).mono ?_;rintro e w2 ⟨⟨a3,c3,a4,c4,ps,rfl,x2,x3,hF⟩,hb2⟩;have hz2:=hb2.size;have hlt2:∀g',(Value.slice a4 b.bs.length c4).ownBlock=some g'->g'<w2.heap.size:=λg' hg'=>(x2.1.lt g' hg').2;replace hF:=hF.avoid (A3 _);have Hnm:Hid (∀p∈ps,p.1.nm.size<=maxLen):=λp hp=>(x2.2 p hp).2.2;have kA2:=kA.up hb2 (by omega);have kR2:=kR.up hb2 (by omega);have hk2:=hk.up hb2;have hB2:=D6 hB1 hb2;clear e0 e1 kA kR hk hB1 hb2;go_upto_region 2 with fail
 obtain⟨W3,hW3,kX,hb3,hs3⟩:=K9 w2 [(.slice a3 b.things.length c3),.slice a4 b.bs.length c4] 33;try rw[hW3]
 clear hW3;have kA3:=kA2.up hb3 (by omega);have kR3:=kR2.up hb3 (by omega);have hk3:=hk2.up hb3;have hB3:=D6 hB2 hb3;have x23:=x2.up hb3;have hF3:=hF.up hb3;clear kA2 kR2 hk2 hB2 x2 hF hb3;obtain⟨e0,e1⟩:=kA3.c2';have hS0:Below W3.heap.size W3 W3/\W3.cell? ⟨w.heap.size,0,none⟩=some (.slice a1 b.things.length c1)/\W3.cell? ⟨w.heap.size,1,none⟩=some (.slice a2 b.bs.length c2):=⟨A4 _ _,e0,e1⟩;have hq3:w.heap.size<W3.heap.size:=by omega
 clear e0 e1;go_wp2_with fail
 go_region_held (λw'=>Below W3.heap.size W3 w'/\w'.cell? ⟨w.heap.size,0,none⟩=some (.slice a1 b.things.length c1)/\w'.cell? ⟨w.heap.size,1,none⟩=some (.slice a2 b.bs.length c2)) (first|exact AeT hS0|exact Ajh hq3 (by assumption) (by assumption))
  (first
   | (go_at_call 269;refine (AaA nm _).mono ?_;rintro e' w9 ⟨rfl,hb9⟩)
   | (go_at_call 180;refine (Abe b _ nm _ ((hk3.up (A4 _ _).drew).up hb9) hok).mono ?_;rintro e' wA ⟨rfl,hbA⟩))
 rename_i hHeld;have hBA:=hHeld.1;clear hHeld hS0 hb9 hbA;have hzA:=hBA.size;have kXA:=kX.up hBA (by omega);have kRA:=kR3.up hBA (by omega);have hBB:=D6 hB3 hBA;have x2A:=x23.up hBA;have hFA:=hF3.up hBA;clear kX kR3 kA3 hB3 x23 hF3 hk3 hBA;rw[Aew hok.2.2.2.1 hm];obtain⟨-,hpl⟩:=T8 hm;have hps:ps.length=b.bs.length:=by rw[← x3,B4]
 have hrow:=x2A.1;rw[hps] at hrow;obtain⟨g,cp,hgp⟩:=F4 hrow (by omega);obtain⟨rfl,-,rfl⟩:=Value.slice.inj hgp;clear hgp;go_upto_region 19 with fail
 obtain⟨W5,hW5,hb5,hs5⟩:∃W5,wA.alloc (.cells #[.string nm] 236)=W5/\Below wA.heap.size wA W5/\W5.heap.size=wA.heap.size+1:=⟨_,rfl,(A4 _ _).alloc (A3 _) _,by simp⟩;try rw[hW5]
 clear hW5;have kX5:=kXA.up hb5 (by omega);have kR5:=kRA.up hb5 (by omega);have hB5:=D6 hBB hb5;have x25:=x2A.up hb5;have hF5:=hFA.up hb5;have hg2:=hlt2 g rfl;have hg1:=(hrow.lt g rfl).1;clear kXA kRA hBB x2A hFA hb5 hrow hlt2;have hrow5:=x25.1;have hdel:=Ajf ps (plN b nm) g c4 W1.heap.size W5 (by omega) (by omega) (by rw[hps];rw[hps] at hrow5;exact hrow5) (x25.one ps (λ_ h=>h));rw[hps] at hdel hrow5;obtain⟨⟨y0,y1⟩,-⟩:=kX5.c2;go_wp2_with fail
 refine hdel.mono ?_;rintro e w6 ⟨rfl,hrow6,hg6⟩;have kX6:=kX5.kept hg6 (by simp;omega);have kR6:=kR5.kept hg6 (by simp;omega);have hF6:=hF5.row hrow5 hg6;have hB6:Below w.heap.size w w6:=I3 hB5 hrow5 hg6 (by omega);clear y0 y1 hdel hrow5 kX5 kR5 hF5 hB5 x25
 obtain⟨W7,hW7,kX7,kR7,hF7,hB7,hrow7⟩:∃W7,w6.setCell ⟨w2.heap.size,1,none⟩ (.slice (some ⟨g,0,none⟩) (b.bs.length-1) c4)=W7/\CB W7 w2.heap.size [(.slice a3 b.things.length c3),.slice (some ⟨g,0,none⟩) (b.bs.length-1) c4]/\CB W7 (w.heap.size+1) [.slice none 0 0,.slice none 0 0]/\Fam W7 W1.heap.size (some w2.heap.size) (((.slice a3 b.things.length c3),b.things)::famB ps)/\Below w.heap.size w W7/\W7.ownsRow W1.heap.size 128 3 (.slice (some ⟨g,0,none⟩) (b.bs.length-1) c4) (b.bs.length-1) (rowsB (ps.take (plN b nm)++ps.drop (plN b nm+1))) :=
  ⟨_,rfl,kX6.set (j:=1) (by simp),kR6.other (by omega),hF6.set 1 _,hB6.setCell (p:=⟨w2.heap.size,1,none⟩) (by show _<=w2.heap.size;omega) _,E2 hrow6 (E0 (rb:=w2.heap.size) (off:=1) (E4 w6 _) _) (Agn (by simp;omega))⟩
 obtain⟨⟨y0,y1⟩,g0,g1⟩:=kX6.c2;go_upto_region 20 with fail
 try rw[hW7]
 clear hW7 y0 y1 g0 g1 kX6 kR6 hF6 hB6 hrow6 hg6;obtain⟨⟨y0,y1⟩,-⟩:=kX7.c2;obtain⟨⟨r0,r1⟩,q0,q1⟩:=kR7.c2;have hW1z:w.heap.size+1<W1.heap.size:=by omega
 have hl2:(b.bs.take (plN b nm)++b.bs.drop (plN b nm+1)).length=b.bs.length-1:=by rw[A9,B7,A8];omega
 have hl3:(ps.take (plN b nm)++ps.drop (plN b nm+1)).length=b.bs.length-1:=by rw[A9,B7,A8];omega
 have hm3:(ps.take (plN b nm)++ps.drop (plN b nm+1)).map (·.1)=b.bs.take (plN b nm)++b.bs.drop (plN b nm+1):=by rw[← x3,List.map_append,List.map_take,List.map_drop]
 go_wp2_with fail
 refine AaW Tryz.results184 Tryz.underlying33 rfl J0 kR7 rfl ?_;have hrow8:=E9 (E9 hrow7 (E0 (rb:=w.heap.size+1) (off:=0) (E4 _ _) (.slice a3 b.things.length c3)) hW1z) (E0 (rb:=w.heap.size+1) (off:=1) (E4 _ _) (.slice (some ⟨g,0,none⟩) (b.bs.length-1) c4)) hW1z;have hF8:=((hF7.free.setLow hW1z 0 (.slice a3 b.things.length c3)).setLow hW1z 1 (.slice (some ⟨g,0,none⟩) (b.bs.length-1) c4)).sub ((AdQ (AiB ps (plN b nm))).cons_cons ((.slice a3 b.things.length c3),b.things));have hW8:=hF8.bsW (fs:=[((.slice a3 b.things.length c3),b.things)]) (v:=.slice (some ⟨g,0,none⟩) (b.bs.length-1) c4) (by rw[hl3];exact hrow8) (λp hp=>Hnm.out p ((AiB ps (plN b nm)).subset hp));refine⟨⟨_,rfl,a3,c3,some ⟨g,0,none⟩,c4,ps.take (plN b nm)++ps.drop (plN b nm+1),?_,?_,hm3,hF8.low (by omega)⟩,F9 hB7 (Nat.le_succ _) _ _⟩
 ·show Value.agg #[_,_]=Value.agg #[_,.slice _ (b.bs.take (plN b nm)++b.bs.drop (plN b nm+1)).length _]
  rw[hl2]
 ·show BsW _ _ (.slice _ (b.bs.take (plN b nm)++b.bs.drop (plN b nm+1)).length _) _
  rw[hl2];exact hW8.low (by omega)
end Go.Proofs.YtebfdccbmmpceaaGreatDoor
namespace Go.Proofs.YtebfdccbmmpceaaGreatDoor
open Go.RowKit Go.Extern.Stop Go.Stop Go.Extern
theorem AkB (t:Value) (w:World):Calls Tryz.prog 53 #[.nilIface,t] w λe w'=>e=.returned (.bool false)/\w'=w:=by
 go_enter Tryz.func53,Tryz.ntmps53
 go_wp2
 go_ret
 exact⟨rfl,rfl⟩
theorem Ab1 (t:Addr) (w:World):(ReflectliteValue.unpack (.iface 100 (.pointer (some t)))).run Tryz.prog w=.ok (Value.agg #[(Value.pointer (some ⟨2,100,none⟩)),.pointer (some ⟨w.heap.size,0,none⟩),.int .u64 150]) (w.alloc (.cells #[.pointer (some t)] 100)):=by kernel_rfl
theorem Acm (a:Addr) (w:World):(ReflectliteValue.methodAny (ReflectliteValue.valueError "reflectlite.Value.Type" 0) (λt _ _ _=>ReflectliteType.toType t) #[(Value.agg #[(Value.pointer (some ⟨2,100,none⟩)),.pointer (some a),.int .u64 150])]).run Tryz.prog w=.ok (Value.iface 185 (.agg #[(Value.pointer (some ⟨2,100,none⟩))])) w:=by kernel_rfl
theorem Acn (h:Value) (w:World):(Go.method 148 185 (.agg #[h]) "Kind").run Tryz.prog w=.ok (248,h) w:=by kernel_rfl
theorem Aco (h:Value) (w:World):(Go.method 148 185 (.agg #[h]) "Elem").run Tryz.prog w=.ok (261,.agg #[h]) w:=by kernel_rfl
theorem Acp (h:Value) (w:World):(Go.method 148 185 (.agg #[h]) "Implements").run Tryz.prog w=.ok (262,.agg #[h]) w:=by kernel_rfl
theorem AaL (h:Value) (w:World):(Go.method 148 185 (.agg #[h]) "AssignableTo").run Tryz.prog w=.ok (259,.agg #[h]) w:=by kernel_rfl
theorem Acq (w:World):((ReflectliteType.abiMethod λt=>(λa:Nat=>Value.int IntKind.u8 (a:Int)) <$> Rtype.kind t) #[(Value.pointer (some ⟨2,100,none⟩))]).run Tryz.prog w=.ok (.int .u8 22) w:=by kernel_rfl
theorem Acr (w:World):((ReflectliteType.abiMethod λt=>(λa:Nat=>Value.int IntKind.u8 (a:Int)) <$> Rtype.kind t) #[(Value.pointer (some ⟨2,98,none⟩))]).run Tryz.prog w=.ok (.int .u8 25) w:=by kernel_rfl
theorem Acs (w:World):(ReflectliteType.method ReflectliteType.elem #[.agg #[(Value.pointer (some ⟨2,100,none⟩))]]).run Tryz.prog w=.ok (Value.iface 185 (.agg #[(Value.pointer (some ⟨2,98,none⟩))])) w:=by kernel_rfl
theorem Acu (w:World):(ReflectliteType.relation "Implements" ReflectliteType.implements_ #[.agg #[(Value.pointer (some ⟨2,98,none⟩))],(Value.iface 185 (.agg #[(Value.pointer (some ⟨2,94,none⟩))]))]).run Tryz.prog w=.ok (.bool true) w:=by kernel_rfl
theorem Acv (v:Value) (w:World):(ReflectliteType.typeOf #[.iface 98 v]).run Tryz.prog w=.ok (Value.iface 185 (.agg #[(Value.pointer (some ⟨2,98,none⟩))])) w:=by kernel_rfl
theorem Ags (v:Value) (w:World):(ReflectliteType.typeOf #[.iface 251 v]).run Tryz.prog w=.ok (Value.iface 185 (.agg #[(Value.pointer (some ⟨2,251,none⟩))])) w:=by kernel_rfl
theorem AaM (w:World):(ReflectliteType.relation "AssignableTo" ReflectliteType.assignableTo #[.agg #[(Value.pointer (some ⟨2,98,none⟩))],(Value.iface 185 (.agg #[(Value.pointer (some ⟨2,98,none⟩))]))]).run Tryz.prog w=.ok (.bool true) w:=by kernel_rfl
theorem Aey (w:World):(ReflectliteType.relation "AssignableTo" ReflectliteType.assignableTo #[.agg #[(Value.pointer (some ⟨2,251,none⟩))],(Value.iface 185 (.agg #[(Value.pointer (some ⟨2,98,none⟩))]))]).run Tryz.prog w=.ok (.bool false) w:=by kernel_rfl
theorem Ab2 (c:Int) (w:World):(ReflectliteValue.unpack (.iface 98 (.agg #[.int .i64 c]))).run Tryz.prog w=.ok (.agg #[(Value.pointer (some ⟨2,98,none⟩)),.pointer (some ⟨w.heap.size,0,none⟩),.int .u64 153]) (w.alloc (.cells #[.int .i64 c] 98)):=by kernel_rfl
theorem AkC (w:World):(Rtype.elem? 100).run Tryz.prog w=.ok (some 98) w:=by kernel_rfl
theorem ea_mkR (p:Addr) (w:World):(ReflectliteValue.mk 98 p ReflectliteValue.flagAddr).run Tryz.prog w=.ok (.agg #[(Value.pointer (some ⟨2,98,none⟩)),.pointer (some p),.int .u64 409]) w:=by kernel_rfl
theorem Afl (a:Addr) (w:World):(ReflectliteValue.parts (Value.agg #[(Value.pointer (some ⟨2,100,none⟩)),.pointer (some a),.int .u64 150])).run Tryz.prog w=.ok (some (100,a,150)) w:=by kernel_rfl
theorem AkD (a:Addr) (w:World):(ReflectliteValue.parts (.agg #[(Value.pointer (some ⟨2,98,none⟩)),.pointer (some a),.int .u64 409])).run Tryz.prog w=.ok (some (98,a,409)) w:=by kernel_rfl
theorem AkE (a:Addr) (w:World):(ReflectliteValue.parts (.agg #[(Value.pointer (some ⟨2,98,none⟩)),.pointer (some a),.int .u64 153])).run Tryz.prog w=.ok (some (98,a,153)) w:=by kernel_rfl
theorem AkF (w:World):(Rtype.directlyAssignable 98 98).run Tryz.prog w=.ok true w:=by kernel_rfl
theorem AiC (z:Sem Value) (f:TypeId->Addr->Nat->Nat->Sem Value) (v:Value):ReflectliteValue.method z f #[v]=(do match ← ReflectliteValue.parts v with|none=>z|some (t,a,fl)=>f t a fl (fl % 32)):=rfl
theorem Agt (a p:Addr) (W:World) (ha:W.cell? a=some (.pointer (some p))) :
  (ReflectliteValue.method (ReflectliteValue.valueError "reflectlite.Value.IsNil" 0) ReflectliteValue.isNil #[(Value.agg #[(Value.pointer (some ⟨2,100,none⟩)),.pointer (some a),.int .u64 150])]).run Tryz.prog W=.ok (.bool false) W:=by
 rw[AiC];simp only[Sem.run_bind,Afl,Result.andThen];simp[ReflectliteValue.isNil,loadVar,isAgg,underlying,Tryz.underlying100,ha,Result.andThen]
theorem Agu (a p:Addr) (W:World) (ha:W.cell? a=some (.pointer (some p))) :
  (ReflectliteValue.method (ReflectliteValue.valueError "reflectlite.Value.Elem" 0) ReflectliteValue.elem #[(Value.agg #[(Value.pointer (some ⟨2,100,none⟩)),.pointer (some a),.int .u64 150])]).run Tryz.prog W=.ok (.agg #[(Value.pointer (some ⟨2,98,none⟩)),.pointer (some p),.int .u64 409]) W:=by
 rw[AiC];simp only[Sem.run_bind,Afl,Result.andThen];simp[ReflectliteValue.elem,loadVar,isAgg,underlying,Tryz.underlying100,ha,Result.andThen,AkC,ea_mkR]
theorem AkG (tb to_ bb bo:Nat) (c:Int) (old:Value) (W:World) (hb:W.cell? ⟨bb,bo,none⟩=some (.int .i64 c)) (ht:W.cell? ⟨tb,to_,none⟩=some old) (hf:W.frozen? ⟨tb,to_,none⟩=false) :
  (ReflectliteValue.set #[.agg #[(Value.pointer (some ⟨2,98,none⟩)),.pointer (some ⟨tb,to_,none⟩),.int .u64 409],.agg #[(Value.pointer (some ⟨2,98,none⟩)),.pointer (some ⟨bb,bo,none⟩),.int .u64 153]]).run Tryz.prog W=.ok (.tuple #[]) (W.setCell ⟨tb,to_,none⟩ (.int .i64 c)):=by
 refine (show Sem.run Tryz.prog (bind (ReflectliteValue.parts (.agg #[(Value.pointer (some ⟨2,98,none⟩)),.pointer (some ⟨tb,to_,none⟩),.int .u64 409])) λ_=>bind (ReflectliteValue.parts (.agg #[(Value.pointer (some ⟨2,98,none⟩)),.pointer (some ⟨bb,bo,none⟩),.int .u64 153])) _) W=_ from ?_);simp only[Sem.run_bind,AkD,AkE,Result.andThen];simp[ReflectliteValue.flagAddr,loadVar,isAgg,underlying,Tryz.underlying98,Result.andThen,AkF,storeVar,Value.cells];have hl:(loadCells ⟨bb,bo,none⟩ 1).run Tryz.prog W=.ok #[.int .i64 c] W:=by simp[loadCells,loadCellsFrom,Addr.add,hb,Result.andThen]
 have hs:(storeCells ⟨tb,to_,none⟩ [.int .i64 c]).run Tryz.prog W=.ok () (W.setCell ⟨tb,to_,none⟩ (.int .i64 c)):=by
  simp[storeCells,Addr.add];rw[run_store Tryz.prog W ⟨tb,to_,none⟩ _ _ (by rfl)];simp[ht,hf]
 rw[hl];simp[hs]
theorem AnD (v:Value) (xT:TypeId) (w:World):(Instr.typeAssert (.iface 251 v) xT 190 true).run Tryz.prog w=.ok (.tuple #[.nilIface,.bool false]) w:=run_typeAssert_lacksB Tryz.underlying190 (by kernel_rfl) (by kernel_rfl) v xT w
theorem ea_unw (v:Value) (xT:TypeId) (w:World):(Instr.typeAssert (.iface 251 v) xT 193 true).run Tryz.prog w=.ok (.tuple #[.iface 251 v,.bool true]) w:=run_typeAssert_hasB Tryz.underlying193 (by kernel_rfl) v xT w
theorem AnE (a b:Value) (w:World):(Go.method 193 251 (.agg #[a,b]) "Unwrap").run Tryz.prog w=.ok (277,.agg #[a,b]) w:=by kernel_rfl
theorem Aji (a b:Value) (w:World):Calls Tryz.prog 277 #[.agg #[a,b]] w λe w'=>e=.returned b/\Below w.heap.size w w':=by
 go_enter Tryz.func277,Tryz.ntmps277
 go_wp2_with fail
 go_ret
 exact⟨rfl,(A4 _ _).alloc (A3 _) _⟩
theorem as_in (who:ByteArray) (c:Int) (tb vb:Nat) (old tgt:Value) (w:World) (hv:w.cell? ⟨vb,0,none⟩=some (.pointer (some ⟨tb,0,none⟩))) (ht0:w.cell? ⟨tb,0,none⟩=some old) (hf0:w.frozen? ⟨tb,0,none⟩=false) :
  Calls Tryz.prog 102 #[.iface 251 (.agg #[.string who,.iface 98 (.agg #[.int .i64 c])]),tgt,(Value.agg #[(Value.pointer (some ⟨2,100,none⟩)),.pointer (some ⟨vb,0,none⟩),.int .u64 150]),(Value.iface 185 (.agg #[(Value.pointer (some ⟨2,98,none⟩))]))] w
   λe w'=>e=.returned (.bool true)/\∃W,Below w.heap.size w W/\w'=W.setCell ⟨tb,0,none⟩ (.int .i64 c):=by
 have x1:=@run_callFunc_extern Tryz.prog 99 _ (λargs=>ReflectliteValue.unpack (args.getD 0 (.tuple #[]))) Tryz.func99 (by kernel_rfl) (by kernel_rfl) (by kernel_rfl) (by kernel_rfl);have x2:=@run_callFunc_extern Tryz.prog 100 _ (ReflectliteValue.methodAny (ReflectliteValue.valueError "reflectlite.Value.Type" 0) (λt _ _ _=>ReflectliteType.toType t)) Tryz.func100 (by kernel_rfl) (by kernel_rfl) (by kernel_rfl) (by kernel_rfl);have x3:=@run_callFunc_extern Tryz.prog 101 _ (ReflectliteValue.method (ReflectliteValue.valueError "reflectlite.Value.IsNil" 0) ReflectliteValue.isNil) Tryz.func101 (by kernel_rfl) (by kernel_rfl) (by kernel_rfl) (by kernel_rfl);have x4:=@run_callFunc_extern Tryz.prog 248 _ (ReflectliteType.abiMethod λt=>do pure (.int .u8 (← Rtype.kind t))) Tryz.func248 (by kernel_rfl) (by kernel_rfl) (by kernel_rfl) (by kernel_rfl);have x5:=@run_callFunc_extern Tryz.prog 261 _ (ReflectliteType.method ReflectliteType.elem) Tryz.func261 (by kernel_rfl) (by kernel_rfl) (by kernel_rfl) (by kernel_rfl);have x6:=@run_callFunc_extern Tryz.prog 262 _ (ReflectliteType.relation "Implements" ReflectliteType.implements_) Tryz.func262 (by kernel_rfl) (by kernel_rfl) (by kernel_rfl) (by kernel_rfl);have x7:=@run_callFunc_extern Tryz.prog 137 _ ReflectliteType.typeOf Tryz.func137 (by kernel_rfl) (by kernel_rfl) (by kernel_rfl) (by kernel_rfl);have x8:=@run_callFunc_extern Tryz.prog 259 _ (ReflectliteType.relation "AssignableTo" ReflectliteType.assignableTo) Tryz.func259 (by kernel_rfl) (by kernel_rfl) (by kernel_rfl) (by kernel_rfl);have x9:=@run_callFunc_extern Tryz.prog 138 _ (ReflectliteValue.method (ReflectliteValue.valueError "reflectlite.Value.Elem" 0) ReflectliteValue.elem) Tryz.func138 (by kernel_rfl) (by kernel_rfl) (by kernel_rfl) (by kernel_rfl);have x10:=@run_callFunc_extern Tryz.prog 139 _ ReflectliteValue.set Tryz.func139 (by kernel_rfl) (by kernel_rfl) (by kernel_rfl) (by kernel_rfl);have y1:=Ab1;have y2:=Acm;have y3:=Acn;have y4:=Aco;have y5:=Acp;have y6:=AaL;have y7:=Acq;have y8:=Acr;have y9:=Acs;have y10:=Acu;have y11:=Acv;have y12:=Ags;have y13:=AaM;have y14:=Aey;have y15:=Ab2;have y16:=AnD;have y17:=ea_unw;have y18:=AnE;have htl:tb<w.heap.size:=World.block_lt_of_cell? w ⟨tb,0,none⟩ ht0;have hvl:vb<w.heap.size:=World.block_lt_of_cell? w ⟨vb,0,none⟩ hv;obtain⟨W1,hW1,kB,hb1,hs1⟩:=K9 w [(Value.pointer (some ⟨2,100,none⟩)),.pointer (some ⟨vb,0,none⟩),.int .u64 150] 145;go_enter Tryz.func102,Tryz.ntmps102
 go_wp2_with fail
 try rw[hW1]
 clear hW1 hs1;refine wp_loop_rounds 2 ?_;rw[rounds_succ];go_wp2_with fail
 refine (Aji _ _ _).mono ?_;rintro e W2 ⟨rfl,hb2⟩;have kB2:=kB.up hb2 kB.2.2;have hB2:=D6 hb1 hb2;have hv2:=(hB2.cell (p:=⟨vb,0,none⟩) hvl).trans hv;have ht2:=(hB2.cell (p:=⟨tb,0,none⟩) htl).trans ht0;have hf2:=(hB2.frozen (p:=⟨tb,0,none⟩) htl).trans hf0;obtain⟨⟨j0,j1,j2⟩,-⟩:=kB2.c3;have el:=Agu ⟨vb,0,none⟩ ⟨tb,0,none⟩ W2 hv2;obtain⟨W3,hW3,kR,hb3,hs3⟩:=K9 W2 [.int .i64 c] 98;have hz2:=hB2.size;have st:=AkG tb 0 W2.heap.size 0 c old W3 (kR.1 0 _ rfl) ((hb3.cell (p:=⟨tb,0,none⟩) (by show tb<_;omega)).trans ht2) ((hb3.frozen (p:=⟨tb,0,none⟩) (by show tb<_;omega)).trans hf2);have hB3:=D6 hB2 hb3;clear hv2 ht2 hf2 hb3 hs3 kR;go_wp2_with fail
 rw[rounds_succ];go_wp2_with fail
 go_ret
 exact⟨rfl,W3,hB3,rfl⟩
theorem Ajj (who:ByteArray) (c:Int) (tb:Nat) (old:Value) (w:World) (hg:w.cell? ⟨0,0,none⟩=some (Value.iface 185 (.agg #[(Value.pointer (some ⟨2,94,none⟩))]))) (ht0:w.cell? ⟨tb,0,none⟩=some old) (hf0:w.frozen? ⟨tb,0,none⟩=false) :
  Calls Tryz.prog 53 #[.iface 251 (.agg #[.string who,.iface 98 (.agg #[.int .i64 c])]),.iface 100 (.pointer (some ⟨tb,0,none⟩))] w
   λe w'=>e=.returned (.bool true)/\∃W,Below w.heap.size w W/\w'=W.setCell ⟨tb,0,none⟩ (.int .i64 c):=by
 have x1:=@run_callFunc_extern Tryz.prog 99 _ (λargs=>ReflectliteValue.unpack (args.getD 0 (.tuple #[]))) Tryz.func99 (by kernel_rfl) (by kernel_rfl) (by kernel_rfl) (by kernel_rfl);have x2:=@run_callFunc_extern Tryz.prog 100 _ (ReflectliteValue.methodAny (ReflectliteValue.valueError "reflectlite.Value.Type" 0) (λt _ _ _=>ReflectliteType.toType t)) Tryz.func100 (by kernel_rfl) (by kernel_rfl) (by kernel_rfl) (by kernel_rfl);have x3:=@run_callFunc_extern Tryz.prog 101 _ (ReflectliteValue.method (ReflectliteValue.valueError "reflectlite.Value.IsNil" 0) ReflectliteValue.isNil) Tryz.func101 (by kernel_rfl) (by kernel_rfl) (by kernel_rfl) (by kernel_rfl);have x4:=@run_callFunc_extern Tryz.prog 248 _ (ReflectliteType.abiMethod λt=>do pure (.int .u8 (← Rtype.kind t))) Tryz.func248 (by kernel_rfl) (by kernel_rfl) (by kernel_rfl) (by kernel_rfl);have x5:=@run_callFunc_extern Tryz.prog 261 _ (ReflectliteType.method ReflectliteType.elem) Tryz.func261 (by kernel_rfl) (by kernel_rfl) (by kernel_rfl) (by kernel_rfl);have x6:=@run_callFunc_extern Tryz.prog 262 _ (ReflectliteType.relation "Implements" ReflectliteType.implements_) Tryz.func262 (by kernel_rfl) (by kernel_rfl) (by kernel_rfl) (by kernel_rfl);have x7:=@run_callFunc_extern Tryz.prog 137 _ ReflectliteType.typeOf Tryz.func137 (by kernel_rfl) (by kernel_rfl) (by kernel_rfl) (by kernel_rfl);have x8:=@run_callFunc_extern Tryz.prog 259 _ (ReflectliteType.relation "AssignableTo" ReflectliteType.assignableTo) Tryz.func259 (by kernel_rfl) (by kernel_rfl) (by kernel_rfl) (by kernel_rfl);have x9:=@run_callFunc_extern Tryz.prog 138 _ (ReflectliteValue.method (ReflectliteValue.valueError "reflectlite.Value.Elem" 0) ReflectliteValue.elem) Tryz.func138 (by kernel_rfl) (by kernel_rfl) (by kernel_rfl) (by kernel_rfl);have x10:=@run_callFunc_extern Tryz.prog 139 _ ReflectliteValue.set Tryz.func139 (by kernel_rfl) (by kernel_rfl) (by kernel_rfl) (by kernel_rfl);have y1:=Ab1;have y2:=Acm;have y3:=Acn;have y4:=Aco;have y5:=Acp;have y6:=AaL;have y7:=Acq;have y8:=Acr;have y9:=Acs;have y10:=Acu;have y11:=Acv;have y12:=Ags;have y13:=AaM;have y14:=Aey;have y15:=Ab2;have hlt:0<w.heap.size:=World.block_lt_of_cell? w ⟨0,0,none⟩ hg;have htl:tb<w.heap.size:=World.block_lt_of_cell? w ⟨tb,0,none⟩ ht0;obtain⟨W2,hW2,kV,kB,hb2,hs2⟩:=L1 w [.pointer (some ⟨tb,0,none⟩)] 100 [(Value.pointer (some ⟨2,100,none⟩)),.pointer (some ⟨w.heap.size,0,none⟩),.int .u64 150] 145;have kv:=kV.1 0 _ rfl;have n8:=Agt ⟨w.heap.size,0,none⟩ ⟨tb,0,none⟩ W2 kv;have hg2:=(hb2.cell (p:=⟨0,0,none⟩) hlt).trans hg;have ht2:=(hb2.cell (p:=⟨tb,0,none⟩) htl).trans ht0;have hf2:=(hb2.frozen (p:=⟨tb,0,none⟩) htl).trans hf0;obtain⟨⟨j0,j1,j2⟩,-⟩:=kB.c3;go_enter Tryz.func53,Tryz.ntmps53
 go_wp2_with fail
 refine (as_in who c tb w.heap.size old _ W2 kv ht2 hf2).mono ?_;rintro e w' ⟨rfl,W3,hb3,rfl⟩;have hB3:=D6 hb2 hb3;go_wp2_with fail
 go_ret
 exact⟨rfl,W3,hB3,rfl⟩
end Go.Proofs.YtebfdccbmmpceaaGreatDoor
namespace Go.Proofs.YtebfdccbmmpceaaGreatDoor
open Go.RowKit
theorem BkF.up {w w':World} {base:Nat} {v:Value} {b:Bk} (h:BkF w base v b) (hb:Below w.heap.size w w'):BkF w' base v b:=by
 obtain⟨a1,c1,a2,c2,ps,e,h1,h2,h3⟩:=h;exact⟨a1,c1,a2,c2,ps,e,h1.up hb,h2,h3.up hb⟩
theorem BkF.low {w:World} {base base':Nat} {v:Value} {b:Bk} (h:BkF w base v b) (hb:base'<=base):BkF w base' v b:=by
 obtain⟨a1,c1,a2,c2,ps,e,h1,h2,h3⟩:=h;exact⟨a1,c1,a2,c2,ps,e,h1.low hb,h2,h3.low hb⟩
theorem BkF.set {w:World} {base r j:Nat} {v u:Value} {b:Bk} (h:BkF w base v b) (hr:r<base):BkF (w.setCell ⟨r,j,none⟩ u) base v b:=by
 obtain⟨a1,c1,a2,c2,ps,e,h1,h2,h3⟩:=h;exact⟨a1,c1,a2,c2,ps,e,h1.set hr,h2,h3.setLow hr j u⟩
theorem BkF.shape {w:World} {base:Nat} {v:Value} {b:Bk} (h:BkF w base v b):∃a1 c1 a2 c2,v=.agg #[.slice a1 b.things.length c1,.slice a2 b.bs.length c2]:=by
 obtain⟨a1,c1,a2,c2,ps,e,-⟩:=h;exact⟨a1,c1,a2,c2,e⟩
theorem Agv (w:World) (base:Nat):BkF w base (.agg #[.slice none 0 0,.slice none 0 0]) nobody:=by
 refine⟨none,0,none,0,[],rfl,⟨B8 _ _ _ _,λp hp=>by simp at hp⟩,rfl,?_⟩;exact (AeR w base none).mk1 (B8 _ _ _ _)
def errV (nm:ByteArray) (c:Int):Value:=if c=0 then .nilIface else .iface 251 (.agg #[.string nm,.iface 98 (.agg #[.int .i64 c])])
theorem AkH (nm:ByteArray):errV nm 0=.nilIface:=rfl
theorem AkI {nm:ByteArray} {c:Int} (h:c≠0):errV nm c=.iface 251 (.agg #[.string nm,.iface 98 (.agg #[.int .i64 c])]):=by simp[errV,h]
theorem AeU {u v:Value} {nm:ByteArray} {c:Int} (h:errV nm c=v):Ending.returned (.tuple #[u,v])=.returned (.tuple #[u,errV nm c]):=by rw[h]
noncomputable def askedC (b:Bk) (cR:Int):Int:=if bookB b=false then 1 else cR
noncomputable def askedB (b:Bk) (cR:Int) (bN:Bk):Bk:=if bookB b=false then nobody else if cR=0 then bN else b
theorem AeV (b:Bk) (v:Value) (nm:ByteArray) (D:TypeId) (av:Value) (rF:FuncId) (cR:Int) (bN:Bk) (w:World) (h:BkV w v b)
  (hwho:∀n w,(Go.method (n+1) D av "loop.example/maltrun/impl.who").run Tryz.prog w=.ok (269,.agg #[.string nm]) w)
  (href:∀n w,(Go.method (n+1) D av "loop.example/maltrun/impl.refusal").run Tryz.prog w=.ok (rF,av) w)
  (hrun:∀(args:Array Value) (w:World),(callFunc rF args).run Tryz.prog w=.ok (.enter rF args) w)
  (Href:BookOk b->∀W,Below w.heap.size w W->Calls Tryz.prog rF #[av,v] W λe w'=>e=.returned (refV cR)/\Below W.heap.size W w')
  (Hdone:BookOk b->cR=0->∀W,Below w.heap.size w W->Calls Tryz.prog 184 #[v,.iface D av] W λe w'=>(∃u,e=.returned u/\BkF w' W.heap.size u bN)/\Below W.heap.size W w') :
  Calls Tryz.prog 166 #[v,.iface D av] w λe w'=>(∃u,e=.returned (.tuple #[u,errV nm (askedC b cR)])/\BkF w' w.heap.size u (askedB b cR bN))/\Below w.heap.size w w':=by
 obtain⟨a1,c1,a2,c2,rfl,-,-⟩:=h.parts;have HR:Hid (BookOk b->∀W,Below w.heap.size w W->Calls Tryz.prog rF #[av,.agg #[.slice a1 b.things.length c1,.slice a2 b.bs.length c2]] W λe w'=>e=.returned (refV cR)/\Below W.heap.size W w'):=Href;have HD:Hid (BookOk b->cR=0->∀W,Below w.heap.size w W->Calls Tryz.prog 184 #[.agg #[.slice a1 b.things.length c1,.slice a2 b.bs.length c2],.iface D av] W λe w'=>(∃u,e=.returned u/\BkF w' W.heap.size u bN)/\Below W.heap.size W w'):=Hdone;clear Href Hdone;obtain⟨W1,hW1,kA,kR,hB1,hs1⟩:=L1 w [.slice a1 (b).things.length c1,.slice a2 (b).bs.length c2] 33 [.slice none 0 0,.slice none 0 0] 33;go_enter Tryz.func166,Tryz.ntmps166
 go_upto_region 1 with fail
 try rw[hW1]
 clear hW1;have hk:=h.up hB1;clear h;obtain⟨e0,e1⟩:=kA.c2';go_wp2_with fail
 refine (Acf b _ _ hk).mono ?_;rintro e w2 ⟨rfl,hb2⟩;have hz2:=hb2.size;have kA2:=kA.up hb2 (by omega);have kR2:=kR.up hb2 (by omega);have hk2:=hk.up hb2;have hB2:=D6 hB1 hb2;clear e0 e1 kA kR hk hB1 hb2;cases hok:bookB b
 ·have HC:Hid (errV nm (askedC b cR)=.iface 251 (.agg #[.string nm,.iface 98 (.agg #[.int .i64 1])])/\askedB b cR bN=nobody):=⟨by simp[askedC,hok,errV],by simp[askedB,hok]⟩
  go_wp2_with fail
  refine (AaA nm _).mono ?_;rintro e w3 ⟨rfl,hb3⟩;have kR3:=kR2.up hb3 (by omega);have hB3:=D6 hB2 hb3;obtain⟨⟨y0,y1⟩,q0,q1⟩:=kR3.c2;go_wp2_with fail
  refine J3 Tryz.results166 Tryz.underlying33 rfl J0 kR3 rfl rfl ?_;exact⟨⟨_,AeU HC.out.1,by rw[HC.out.2];exact Agv _ _⟩,F9 hB3 (Nat.le_succ _) _ _⟩
 have hbk:=O4 hok;obtain⟨s1,s2,s3⟩:=O0 hbk;obtain⟨e0,e1⟩:=kA2.c2';go_wp2_with fail
 refine (HR.out hbk _ hB2).mono ?_;rintro e w3 ⟨rfl,hb3⟩;have hz3:=hb3.size;have kA3:=kA2.up hb3 (by omega);have kR3:=kR2.up hb3 (by omega);have hk3:=hk2.up hb3;have hB3:=D6 hB2 hb3;clear e0 e1 kA2 kR2 hk2 hB2 hb3 HR;obtain⟨e0,e1⟩:=kA3.c2';by_cases hc:cR=0
 ·subst hc
  have HC:Hid (errV nm (askedC b 0)=.nilIface/\askedB b 0 bN=bN):=⟨by simp[askedC,hok,errV],by simp[askedB,hok]⟩;have HD0:=HD.out hbk rfl _ hB3;clear HD;rw[Afk];go_wp2_with fail
  refine HD0.mono ?_;rintro e w4 ⟨⟨u,rfl,hu⟩,hb4⟩;have kR4:=kR3.up hb4 (by omega);have hB4:=D6 hB3 hb4;obtain⟨i1,j1,i2,j2,rfl⟩:=hu.shape;clear e0 e1;obtain⟨⟨y0,y1⟩,q0,q1⟩:=kR4.c2;go_wp2_with fail
  refine J3 Tryz.results166 Tryz.underlying33 rfl J0 kR4 rfl rfl ?_;exact⟨⟨_,AeU HC.out.1,by rw[HC.out.2];exact ((hu.set (by omega)).set (by omega)).low (by omega)⟩,F9 hB4 (Nat.le_succ _) _ _⟩
 ·have HC:Hid (errV nm (askedC b cR)=.iface 251 (.agg #[.string nm,.iface 98 (.agg #[.int .i64 cR])])/\askedB b cR bN=b):=⟨by simp[askedC,hok,errV,hc],by simp[askedB,hok,hc]⟩
  rw[AcU hc];go_wp2_with fail
  refine (Z1 b _ _ hk3 (by omega) (by omega) (λy hy=>by have:=s3 y hy;omega)).mono ?_;rintro e w4 ⟨hcp,hb4⟩;have hz4:=hb4.size;have kR4:=kR3.up hb4 (by omega);have hB4:=D6 hB3 hb4;clear e0 e1;obtain⟨i1,j1,i2,j2,ps,rfl,p1,p2,p3⟩:=hcp;have hu:BkF w4 w3.heap.size (.agg #[.slice i1 b.things.length j1,.slice i2 b.bs.length j2]) b:=⟨i1,j1,i2,j2,ps,rfl,p1,p2,p3⟩;clear p1 p2 p3;go_wp2_with fail
  refine (AaA nm _).mono ?_;rintro e w5 ⟨rfl,hb5⟩;have kR5:=kR4.up hb5 (by omega);have hB5:=D6 hB4 hb5;have hu5:=hu.up hb5;obtain⟨⟨y0,y1⟩,q0,q1⟩:=kR5.c2;go_wp2_with fail
  refine J3 Tryz.results166 Tryz.underlying33 rfl J0 kR5 rfl rfl ?_;exact⟨⟨_,AeU HC.out.1,by rw[HC.out.2];exact ((hu5.set (by omega)).set (by omega)).low (by omega)⟩,F9 hB5 (Nat.le_succ _) _ _⟩
def ErrT (w:World):Prop:=w.cell? ⟨0,0,none⟩=some (Value.iface 185 (.agg #[(Value.pointer (some ⟨2,94,none⟩))]))
theorem ErrT.up {w w':World} (h:ErrT w) (hb:Below w.heap.size w w'):ErrT w':=(hb.cell (p:=⟨0,0,none⟩) (World.block_lt_of_cell? w ⟨0,0,none⟩ h)).trans h
theorem Acw (b:Bk) (v:Value) (nm:ByteArray) (D:TypeId) (av:Value) (cd:Int) (bk:Bk) (w:World) (h:BkV w v b) (hg:ErrT w)
  (Htry:∀W,Below w.heap.size w W->Calls Tryz.prog 166 #[v,.iface D av] W λe w'=>(∃u,e=.returned (.tuple #[u,errV nm cd])/\BkF w' W.heap.size u bk)/\Below W.heap.size W w') :
  Calls Tryz.prog 140 #[v,.iface D av] w λe w'=>(∃u,e=.returned (.tuple #[u,.int .i64 cd])/\BkF w' w.heap.size u bk)/\Below w.heap.size w w':=by
 obtain⟨a1,c1,a2,c2,rfl,-,-⟩:=h.parts;clear h;obtain⟨W1,hW1,kA,kR,hB1,hs1⟩:=L1 w [.slice a1 (b).things.length c1,.slice a2 (b).bs.length c2] 33 [.slice none 0 0,.slice none 0 0] 33;have HT:=Htry W1 hB1;clear Htry;have HG:Hid (ErrT w):=hg;clear hg;go_enter Tryz.func140,Tryz.ntmps140
 go_upto_region 1 with fail
 try rw[hW1]
 clear hW1;obtain⟨e0,e1⟩:=kA.c2';go_wp2_with fail
 refine HT.mono ?_;rintro e w2 ⟨⟨u,rfl,hu⟩,hb2⟩;have hz2:=hb2.size;have kR2:=kR.up hb2 (by omega);have hB2:=D6 hB1 hb2;obtain⟨i1,j1,i2,j2,rfl⟩:=hu.shape;clear e0 e1 kA kR hB1 hb2 HT;go_upto_region 3 with fail
 obtain⟨W4,hW4,kX,kT,hb4,hs4⟩:=L1 w2 [.slice i1 bk.things.length j1,.slice i2 bk.bs.length j2] 33 [.int .i64 0] 98;try rw[hW4]
 clear hW4;have kR4:=kR2.up hb4 (by omega);have hB4:=D6 hB2 hb4;have hu4:=hu.up hb4;clear kR2 hB2;by_cases hc:cd=0
 ·subst hc
  rw[AkH];go_wp2_with fail
  refine (AkB _ _).mono ?_;rintro e w5 ⟨rfl,hw5⟩;obtain rfl:=hw5.symm;obtain⟨⟨x0,x1⟩,-⟩:=kX.c2;obtain⟨⟨y0,y1⟩,q0,q1⟩:=kR4.c2;go_wp2_with fail
  refine J3 Tryz.results140 Tryz.underlying33 rfl J0 kR4 rfl rfl ?_;exact⟨⟨_,rfl,((hu4.set (by omega)).set (by omega)).low (by omega)⟩,F9 hB4 (Nat.le_succ _) _ _⟩
 ·rw[AkI hc]
  have t0:W4.cell? ⟨w2.heap.size+1,0,none⟩=some (.int .i64 0):=kT.1 0 _ rfl;have t1:W4.frozen? ⟨w2.heap.size+1,0,none⟩=false:=(kT.2.1 0 (by simp)).2;have HE:Hid (ErrT W4):=HG.out.up hB4;go_wp2_with fail
  refine (Ajj nm cd _ _ _ HE.out t0 t1).mono ?_;rintro e w5 ⟨rfl,W5,hb5,rfl⟩;have kX5:=(kX.up hb5 (by omega)).other (q:=w2.heap.size+1) (j:=0) (u:=.int .i64 cd) (by omega);have kR5:=(kR4.up hb5 (by omega)).other (q:=w2.heap.size+1) (j:=0) (u:=.int .i64 cd) (by omega);have kT5:=(kT.up hb5 (by omega)).set (j:=0) (u:=.int .i64 cd) (by simp);have hB5:Below w.heap.size w (W5.setCell ⟨w2.heap.size+1,0,none⟩ (.int .i64 cd)):=(D6 hB4 hb5).setCell (p:=⟨w2.heap.size+1,0,none⟩) (by show _<=w2.heap.size+1;omega) _;have hu5:BkF (W5.setCell ⟨w2.heap.size+1,0,none⟩ (.int .i64 cd)) W1.heap.size _ bk:=hu.up ((D6 hb4 hb5).setCell (p:=⟨w2.heap.size+1,0,none⟩) (by show _<=w2.heap.size+1;omega) _);clear kX kR4 kT hB4 hu4 hu t0 t1 HE hb4 hb5;generalize W5.setCell ⟨w2.heap.size+1,0,none⟩ (.int .i64 cd)=W6 at *;obtain⟨⟨x0,x1⟩,-⟩:=kX5.c2;obtain⟨⟨y0,y1⟩,q0,q1⟩:=kR5.c2;have t0:W6.cell? ⟨w2.heap.size+1,0,none⟩=some (.int .i64 cd):=kT5.1 0 _ rfl;have kR6:=kR5.up (A4 _ _).drew kR5.2.2;have hu6:=hu5.up (A4 _ _).drew;go_wp2_with fail
  go_region
  all_goals
   go_wp2_with fail
   refine J3 Tryz.results140 Tryz.underlying33 rfl J0 kR6 rfl rfl ?_;exact⟨⟨_,rfl,((hu6.set (by omega)).set (by omega)).low (by omega)⟩,F9 hB5.drew (Nat.le_succ _) _ _⟩
end Go.Proofs.YtebfdccbmmpceaaGreatDoor
