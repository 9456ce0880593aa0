/- The law of promises 11 and 13, 7: somebody else has what was asked for (code 5). -/
import Derived.Test.YtmfjakieahkacaaGreatDoorJ48
set_option maxRecDepth 20000
set_option maxHeartbeats 4000000
namespace Go.Proofs.YtmfjakieahkacaaGreatDoor
open Go.Conc Go.RowKit
section
variable {b:Bk} {nm:ByteArray} {ls:List ByteArray} {x3 x6:Nat} {a1 a2 la:Option Addr} {c1 c2 lc:Nat} {c:Int}
theorem Acc(v0 v1 v2 v8 v9 v10 v11 v12 v13 v14 v15 v16 v17 v18 v19 v20 v21 v22 v23 v24 v25 v26 v27 v28 v29 v30 v31 v32 v33 v34 v35 v36 v37 v38 v39 v40 v41 v42 v43 v44 v45 v46 v47 v48 v49 v50 v51 v52 v53 v54 v55 v56 v57 v58 v59 v60 v61 v62 v63 v64 v65 v66 v67 v68 v69 v70 v71 v72 v73 v74 v75 v76 v77 v78 v79 v80 v81 v82 v83 v84 v85 v86 v87 v88 v89 v90 v91 v92 v93 v94 v95 v96 v97 v98 v99 v100 v101 v102 v103 v104 v105 v106 v107 v108 v109 v110 v111 v112 v113 v114 v115 v116 v117 v118 v119 v120 v121 v122:Value)(u:World)(hc:c≠5):(pK 9).wp Tryz.prog (λe a u'=>e=.normal/\QS [(3,.pointer (some ⟨x3,0,none⟩)),(4,.string nm),(5,.slice la ls.length lc),(6,.pointer (some ⟨x6,0,none⟩)),(7,.int .i64 c)] a u'/\Below u.heap.size u u') ⟨#[v0,v1,v2,.pointer (some ⟨x3,0,none⟩),.string nm,.slice la ls.length lc,.pointer (some ⟨x6,0,none⟩),.int .i64 c,v8,v9,v10,v11,v12,v13,v14,v15,v16,v17,v18,v19,v20,v21,v22,v23,v24,v25,v26,v27,v28,v29,v30,v31,v32,v33,v34,v35,v36,v37,v38,v39,v40,v41,v42,v43,v44,v45,v46,v47,v48,v49,v50,v51,v52,v53,v54,v55,v56,v57,v58,v59,v60,v61,v62,v63,v64,v65,v66,v67,v68,v69,v70,v71,v72,v73,v74,v75,v76,v77,v78,v79,v80,v81,v82,v83,v84,v85,v86,v87,v88,v89,v90,v91,v92,v93,v94,v95,v96,v97,v98,v99,v100,v101,v102,v103,v104,v105,v106,v107,v108,v109,v110,v111,v112,v113,v114,v115,v116,v117,v118,v119,v120,v121,v122],[]⟩ u:=by
 have hd:(c==5)=false:=by simpa using hc
 simp only[pK,GA,Cg,Tryz.f3,Option.getD_some];apply Gr
 intro KK hKK;have HK:Hid _:=hKK;clear hKK;go_wp2_with fail;refine HK.out _ _ _ ⟨rfl,⟨_,rfl,rfl,?_⟩,A4 _ _⟩;intro p hp;simp only[List.mem_cons,List.not_mem_nil,or_false] at hp;rcases hp with rfl|rfl|rfl|rfl|rfl<;>rfl
theorem Adm{T:Array Value}(u:World)(hT:P5 123 T [(3,.pointer (some ⟨x3,0,none⟩)),(4,.string nm),(5,.slice la ls.length lc),(6,.pointer (some ⟨x6,0,none⟩)),(7,.int .i64 c)])(hc:c≠5):(pK 9).wp Tryz.prog (λe a u'=>e=.normal/\QS [(3,.pointer (some ⟨x3,0,none⟩)),(4,.string nm),(5,.slice la ls.length lc),(6,.pointer (some ⟨x6,0,none⟩)),(7,.int .i64 c)] a u'/\Below u.heap.size u u') ⟨T,[]⟩ u:=by
 rw[FV T hT.1,K2 hT 3 (.pointer (some ⟨x3,0,none⟩)) (by simp),K2 hT 4 (.string nm) (by simp),K2 hT 5 (.slice la ls.length lc) (by simp),K2 hT 6 (.pointer (some ⟨x6,0,none⟩)) (by simp),K2 hT 7 (.int .i64 c) (by simp)];exact Acc _ _ _ _ _ _ _ _ _ _ _ _ _ _ _ _ _ _ _ _ _ _ _ _ _ _ _ _ _ _ _ _ _ _ _ _ _ _ _ _ _ _ _ _ _ _ _ _ _ _ _ _ _ _ _ _ _ _ _ _ _ _ _ _ _ _ _ _ _ _ _ _ _ _ _ _ _ _ _ _ _ _ _ _ _ _ _ _ _ _ _ _ _ _ _ _ _ _ _ _ _ _ _ _ _ _ _ _ _ _ _ _ _ _ _ _ _ _ u hc
theorem Acd(v0 v1 v2 v6 v8 v9 v10 v11 v12 v13 v14 v15 v16 v17 v18 v19 v20 v21 v22 v23 v24 v25 v26 v27 v28 v29 v30 v31 v32 v33 v34 v35 v36 v37 v38 v39 v40 v41 v42 v43 v44 v45 v46 v47 v48 v49 v50 v51 v52 v53 v54 v55 v56 v57 v58 v59 v60 v61 v62 v63 v64 v65 v66 v67 v68 v69 v70 v71 v72 v73 v74 v75 v76 v77 v78 v79 v80 v81 v82 v83 v84 v85 v86 v87 v88 v89 v90 v91 v92 v93 v94 v95 v96 v97 v98 v99 v100 v101 v102 v103 v104 v105 v106 v107 v108 v109 v110 v111 v112 v113 v114 v115 v116 v117 v118 v119 v120 v121 v122:Value)(u:World)(kX:CB u x3 [.slice a1 b.tg.length c1,.slice a2 b.bs.length c2])(hx:K0 u (.agg #[.slice a1 b.tg.length c1,.slice a2 b.bs.length c2]) b)(hl:Ls u (.slice la ls.length lc) ls)(hn:ls.length<=101)(hw:∃s∈ls,(X5 b s).toList≠nm.toList/\(X5 b s).toList≠[]):(pK 9).wp Tryz.prog (λe a u'=>e=.ret/\a.tmps.getD 2 undef=.bool true/\Below u.heap.size u u') ⟨#[v0,v1,v2,.pointer (some ⟨x3,0,none⟩),.string nm,.slice la ls.length lc,v6,.int .i64 5,v8,v9,v10,v11,v12,v13,v14,v15,v16,v17,v18,v19,v20,v21,v22,v23,v24,v25,v26,v27,v28,v29,v30,v31,v32,v33,v34,v35,v36,v37,v38,v39,v40,v41,v42,v43,v44,v45,v46,v47,v48,v49,v50,v51,v52,v53,v54,v55,v56,v57,v58,v59,v60,v61,v62,v63,v64,v65,v66,v67,v68,v69,v70,v71,v72,v73,v74,v75,v76,v77,v78,v79,v80,v81,v82,v83,v84,v85,v86,v87,v88,v89,v90,v91,v92,v93,v94,v95,v96,v97,v98,v99,v100,v101,v102,v103,v104,v105,v106,v107,v108,v109,v110,v111,v112,v113,v114,v115,v116,v117,v118,v119,v120,v121,v122],[]⟩ u:=by
 have Hw:Hid (∃s∈ls,(X5 b s).toList≠nm.toList/\(X5 b s).toList≠[]):=hw;obtain⟨-,hzs,hpos⟩:=hl.inv;have Hzs:Hid (∀s∈ls,s.size<=maxLen):=hzs;obtain⟨f0,f1⟩:=kX.c2';have hxl:=kX.2.2;clear hw hzs;simp only[pK,GA,Cg,Tryz.f3,Option.getD_some];apply Gr
 intro KK hKK;have HK:Hid _:=hKK;clear hKK;go_wp2_with fail;go_loopw [11] (λi w'=>∃k:Nat,k<=ls.length/\i=.int .i64 k/\(∀s∈ls.take k,¬((X5 b s).toList≠nm.toList/\(X5 b s).toList≠[]))/\Below u.heap.size u w') (λi _=>ls.length-(intOf i).toNat)
 case atStart=>exact⟨0,by omega,rfl,λs hs=>by simp at hs,A4 _ _⟩
 case round =>
  obtain⟨k,hk,rfl,hno,hB⟩:=hrel;have Hno:Hid (∀s∈ls.take k,¬((X5 b s).toList≠nm.toList/\(X5 b s).toList≠[])):=hno;clear hno;by_cases hp:k<ls.length
  ·obtain⟨g,o,rfl,hS,hg⟩:=hpos (by omega);have c0:=hS.cell hp;have Hz:(ls[k]).size<=maxLen:=Hzs.out _ (by simp);have Hwho:Hid (∀W,Below u.heap.size u W->Calls Tryz.prog 8 #[.agg #[.slice a1 b.tg.length c1,.slice a2 b.bs.length c2],.string ls[k]] W λe w'=>e=.returned (.string (X5 b ls[k]))/\Below W.heap.size W w'):=λW hW=>Mm b _ _ _ (hx.up hW) Hz
   have Hnx:Hid (¬((X5 b ls[k]).toList≠nm.toList/\(X5 b ls[k]).toList≠[])->∀s∈ls.take (k+1),¬((X5 b s).toList≠nm.toList/\(X5 b s).toList≠[])):=λh s hs=>by
    rw[A7 hp] at hs;rcases C6.1 hs with hs|hs
    ·exact Hno.out s hs
    ·obtain rfl:s=ls[k]:=by simpa using hs
     exact h
   clear Hz;generalize X5 b ls[k]=w0 at Hwho Hnx;generalize ls[k]=s0 at *;have Mk:Hid (∀X,Below u.heap.size u X->(World.cell? X ⟨x3,0,none⟩=some (.slice a1 b.tg.length c1)/\World.cell? X ⟨x3,1,none⟩=some (.slice a2 b.bs.length c2)/\World.cell? X ⟨g,o+k,none⟩=some (.string s0))):=λX hX=>⟨(hX.cell (p:=⟨x3,0,none⟩) hxl).trans f0,(hX.cell (p:=⟨x3,1,none⟩) hxl).trans f1,(hX.cell (p:=⟨g,o+k,none⟩) hg).trans c0⟩;clear c0 f0 f1 hS hpos;go_upto_region 23 with fail;cases hq:(w0.toList==nm.toList)
   ·have e2:(w0.toList != nm.toList)=true:=by rw[bne,hq];rfl
    cases hq2:(w0.toList==[])
    ·have e3:(w0.toList != [])=true:=by rw[bne,hq2];rfl
     go_cut [122] from 100 to 122 (λv122 wc=>v122=.bool true/\Below u.heap.size u wc)
     case first =>
      have hS1:=Mk.out wr.drew hB.drew;refine Ip (M4 99 (λw'=>(World.cell? w' ⟨x3,0,none⟩=some (.slice a1 b.tg.length c1)/\World.cell? w' ⟨x3,1,none⟩=some (.slice a2 b.bs.length c2)/\World.cell? w' ⟨g,o+k,none⟩=some (.string s0))) (by kernel_rfl) ?_);refine E6 0 rfl hS1 ?_;refine E6 1 rfl hS1 ?_;refine E6 2 rfl hS1 ?_;refine E6 3 rfl hS1 ?_;refine E6 4 rfl hS1 ?_;refine E6 6 rfl hS1 ?_;refine K4 5 rfl (λK hK=>?_);go_simp;go_wp2_with (go_at_call 8;refine (Hwho.out _ hB.drew).mono ?_;rintro e w5 ⟨rfl,hb5⟩;have hb5:=D1 hB.drew hb5;have hS5:=Mk.out _ hb5)
      refine K9 hK hS5 ?_;clear hK K;refine E6 7 rfl hS5 ?_;refine E6 8 rfl hS5 ?_;refine E6 9 rfl hS5 ?_;refine E6 10 rfl hS5 ?_;refine E6 11 rfl hS5 ?_;refine E6 12 rfl hS5 ?_;refine E6 13 rfl hS5 ?_;refine K4 14 rfl (λK hK=>?_);go_simp;go_wp2_with (go_at_call 8;refine (Hwho.out _ hb5).mono ?_;rintro e w6 ⟨rfl,hb6⟩;have hb6:=D1 hb5 hb6;have hS6:=Mk.out _ hb6)
      refine K9 hK hS6 ?_;clear hK K;refine E6 15 rfl hS6 ?_;refine K4 16 rfl (λK hK=>?_);go_simp;refine K9 hK hS6 ?_;clear hK K;refine N2 (by kernel_rfl) ?_ _
      (try clear hS1);(try clear hS5);(try clear hS6);(try clear Mk)
      go_wp2_with fail;go_meet
      case rel=>exact⟨rfl,hb6⟩
     case rest =>
      obtain⟨rfl,hbc⟩:=hcut;go_wp2_with fail;exact HK.out _ _ _ ⟨rfl,rfl,hbc⟩
    ·have e3:(w0.toList != [])=false:=by rw[bne,hq2];rfl
     have HN:Hid (∀s∈ls.take (k+1),¬((X5 b s).toList≠nm.toList/\(X5 b s).toList≠[])):=Hnx.out λh=>h.2 (by simpa using hq2);go_cut [122] from 100 to 122 (λv122 wc=>v122=.bool false/\Below u.heap.size u wc)
     case first =>
      have hS1:=Mk.out wr.drew hB.drew;refine Ip (M4 99 (λw'=>(World.cell? w' ⟨x3,0,none⟩=some (.slice a1 b.tg.length c1)/\World.cell? w' ⟨x3,1,none⟩=some (.slice a2 b.bs.length c2)/\World.cell? w' ⟨g,o+k,none⟩=some (.string s0))) (by kernel_rfl) ?_);refine E6 0 rfl hS1 ?_;refine E6 1 rfl hS1 ?_;refine E6 2 rfl hS1 ?_;refine E6 3 rfl hS1 ?_;refine E6 4 rfl hS1 ?_;refine E6 6 rfl hS1 ?_;refine K4 5 rfl (λK hK=>?_);go_simp;go_wp2_with (go_at_call 8;refine (Hwho.out _ hB.drew).mono ?_;rintro e w5 ⟨rfl,hb5⟩;have hb5:=D1 hB.drew hb5;have hS5:=Mk.out _ hb5)
      refine K9 hK hS5 ?_;clear hK K;refine E6 7 rfl hS5 ?_;refine E6 8 rfl hS5 ?_;refine E6 9 rfl hS5 ?_;refine E6 10 rfl hS5 ?_;refine E6 11 rfl hS5 ?_;refine E6 12 rfl hS5 ?_;refine E6 13 rfl hS5 ?_;refine K4 14 rfl (λK hK=>?_);go_simp;go_wp2_with (go_at_call 8;refine (Hwho.out _ hb5).mono ?_;rintro e w6 ⟨rfl,hb6⟩;have hb6:=D1 hb5 hb6;have hS6:=Mk.out _ hb6)
      refine K9 hK hS6 ?_;clear hK K;refine E6 15 rfl hS6 ?_;refine K4 16 rfl (λK hK=>?_);go_simp;refine K9 hK hS6 ?_;clear hK K;refine N2 (by kernel_rfl) ?_ _
      (try clear hS1);(try clear hS5);(try clear hS6);(try clear Mk)
      go_wp2_with fail;go_meet
      case rel=>exact⟨rfl,hb6⟩
     case rest =>
      obtain⟨rfl,hbc⟩:=hcut;go_wp2_with fail;go_roundw
      case rel=>exact⟨k+1,by omega,by go_num,HN.out,hbc⟩
      case measure=>simp[intOf];omega
   ·have e2:(w0.toList != nm.toList)=false:=by rw[bne,hq];rfl
    have HN:Hid (∀s∈ls.take (k+1),¬((X5 b s).toList≠nm.toList/\(X5 b s).toList≠[])):=Hnx.out λh=>h.1 (by simpa using hq);go_cut [122] from 100 to 122 (λv122 wc=>v122=.bool false/\Below u.heap.size u wc)
    case first =>
     have hS1:=Mk.out wr.drew hB.drew;refine Ip (M4 99 (λw'=>(World.cell? w' ⟨x3,0,none⟩=some (.slice a1 b.tg.length c1)/\World.cell? w' ⟨x3,1,none⟩=some (.slice a2 b.bs.length c2)/\World.cell? w' ⟨g,o+k,none⟩=some (.string s0))) (by kernel_rfl) ?_);refine E6 0 rfl hS1 ?_;refine E6 1 rfl hS1 ?_;refine E6 2 rfl hS1 ?_;refine E6 3 rfl hS1 ?_;refine E6 4 rfl hS1 ?_;refine E6 6 rfl hS1 ?_;refine K4 5 rfl (λK hK=>?_);go_simp;go_wp2_with (go_at_call 8;refine (Hwho.out _ hB.drew).mono ?_;rintro e w5 ⟨rfl,hb5⟩;have hb5:=D1 hB.drew hb5;have hS5:=Mk.out _ hb5)
     refine K9 hK hS5 ?_;clear hK K;refine E6 7 rfl hS5 ?_;refine E6 8 rfl hS5 ?_;refine Pg 9 rfl hS5 ?_;refine Pg 10 rfl hS5 ?_;refine Pg 11 rfl hS5 ?_;refine Pg 12 rfl hS5 ?_;refine Pg 13 rfl hS5 ?_;refine Pg 14 rfl hS5 ?_;refine Pg 15 rfl hS5 ?_;refine K4 16 rfl (λK hK=>?_);go_simp;refine K9 hK hS5 ?_;clear hK K;refine N2 (by kernel_rfl) ?_ _
     (try clear hS1);(try clear hS5);(try clear hS6);(try clear Mk)
     go_wp2_with fail;go_meet
     case rel=>exact⟨rfl,hb5⟩
    case rest =>
     obtain⟨rfl,hbc⟩:=hcut;go_wp2_with fail;go_roundw
     case rel=>exact⟨k+1,by omega,by go_num,HN.out,hbc⟩
     case measure=>simp[intOf];omega
  ·exfalso
   obtain⟨s,hs,h⟩:=Hw.out;exact Hno.out s (by rw[C8 (by omega)];exact hs) h
theorem Adn{T:Array Value}(u:World)(hT:P5 123 T [(3,.pointer (some ⟨x3,0,none⟩)),(4,.string nm),(5,.slice la ls.length lc),(7,.int .i64 5)])(kX:CB u x3 [.slice a1 b.tg.length c1,.slice a2 b.bs.length c2])(hx:K0 u (.agg #[.slice a1 b.tg.length c1,.slice a2 b.bs.length c2]) b)(hl:Ls u (.slice la ls.length lc) ls)(hn:ls.length<=101)(hw:∃s∈ls,(X5 b s).toList≠nm.toList/\(X5 b s).toList≠[]):(pK 9).wp Tryz.prog (λe a u'=>e=.ret/\a.tmps.getD 2 undef=.bool true/\Below u.heap.size u u') ⟨T,[]⟩ u:=by
 rw[FV T hT.1,K2 hT 3 (.pointer (some ⟨x3,0,none⟩)) (by simp),K2 hT 4 (.string nm) (by simp),K2 hT 5 (.slice la ls.length lc) (by simp),K2 hT 7 (.int .i64 5) (by simp)];exact Acd _ _ _ _ _ _ _ _ _ _ _ _ _ _ _ _ _ _ _ _ _ _ _ _ _ _ _ _ _ _ _ _ _ _ _ _ _ _ _ _ _ _ _ _ _ _ _ _ _ _ _ _ _ _ _ _ _ _ _ _ _ _ _ _ _ _ _ _ _ _ _ _ _ _ _ _ _ _ _ _ _ _ _ _ _ _ _ _ _ _ _ _ _ _ _ _ _ _ _ _ _ _ _ _ _ _ _ _ _ _ _ _ _ _ _ _ _ _ _ u kX hx hl hn hw
end
end Go.Proofs.YtmfjakieahkacaaGreatDoor
