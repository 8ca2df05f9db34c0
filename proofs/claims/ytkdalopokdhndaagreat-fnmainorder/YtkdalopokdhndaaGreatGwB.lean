import Derived.Test.YtkdalopokdhndaaGreatGwC
set_option maxHeartbeats 16000000
set_option maxRecDepth 100000
namespace Go.Proofs.YtkdalopokdhndaaGreat
open Go.RowKit
variable {Ca bs:Nat->Nat}{B k m n q be na oe sc cap:Nat}{E:Nat->Ev}{A:Nat->List Ent}{Aa:Nat->Option Addr}{u20 u21 u22 u23 u24 u25 u26 u27 u28 u29 u30 u31 u32 u33 u34 u35 u36 u37 u38 u39 u40 u41 u42 u43 u44 u45 u46 u47 u48 u49 u50 u51 u52 u53 u54 u55 u56 u57 u58 u59 u60 u61 u62 u63 u64 u65 u66 u67 u68 u69 u70 u71 u72 u73 u74 u75 u76 u77 u78 u79 u80 u81 u82 u83 u84 u85 u86 u87 u88 u89 u90 u91 u92 u93 u94 u95 u96 u97 u98 u99 u100 u101 u102 u103 u104 u105 u106 u107 u108 u109 u110 u111 u112 u113 u114 u115 u116 u117 u118 u119 u120 u121 u122 u123 u124 u125 u126 u127 u128 u129 u130 u131 u132 u133 u134 u135 u136 u137 u138 u139 u140 u141 u142 u143 u144 u145 u146 u147 u148 u149 u150 u151 u152 u153 u154 u155 u156 u157 u158 u159 u160 u161 u162 u163 u164 u165 u166:Value}
theorem l2GwB (p:Nat){ab ao:Nat}{ic us:ByteArray}{u167 u168 u169 u170 u171 u172 u173 u174 u175 u176 u177 u178 u179 u180 u181 u182 u183 u184 u185 u186 u187 u188 u189 u190 u191 u192:Value}(w w5:World)(hp:p<w.heap.size)(hn:0<n)(h300:n<=300)(hk:k<256)(Hk:Hid (k=nxB bs m q))(Hic:Hid (ic=gwId k n))(hiz:ic.size<=100)(Hus:Hid (us=usr (k / 4 % 16 % 5)))(hna:n<=na)(hna2:na<=2 ^ 63 - 1)(hcapn:n<=cap∧cap<=2 ^ 63 - 1)(Hroom:Hid (roomTo E n=true))(Hf:Hid (∀ j,j<n->FitL E n (A j)))(HKh:Hid (GwK p w be oe n cap E ab ao na A Aa Ca))(hlo:w.heap.size+2<=B)(H5:Hid (GvB p w w5 bs m (nxQ m q) (.slice (some ⟨be,oe,none⟩) n cap) B (fun o=>(#[.string ic,.string us,.string ⟨#[]⟩,.bool false,.string ⟨#[]⟩,.int .i64 (100+(k:Int) % 7),.slice none 0 0,.slice none 0 0,.string ⟨#[]⟩,.slice none 0 0]:Array Value)[o]?.getD undef))) :
  Code.wp Tryz.prog (tlN (Tryz.f64.body.getD .skip) 4) (bodyPost Tryz.prog Tryz.f64 (GwPost p w bs m q E n A)) { tmps:=#[.pointer (some ⟨p,0,none⟩),.agg #[.slice (some ⟨be,oe,none⟩) n cap],.slice (some ⟨ab,ao,none⟩) na sc,undef,.pointer (some ⟨w.heap.size,0,none⟩),undef,.pointer (some ⟨w.heap.size+1,0,none⟩),.int .i64 (n:Int),.int .i64 (k:Int),.pointer (some ⟨B,0,none⟩),undef,undef,undef,undef,undef,undef,undef,undef,undef,undef,u20,u21,u22,u23,u24,u25,u26,u27,u28,u29,u30,u31,u32,u33,u34,u35,u36,u37,u38,u39,u40,u41,u42,u43,u44,u45,u46,u47,u48,u49,u50,u51,u52,u53,u54,u55,u56,u57,u58,u59,u60,u61,u62,u63,u64,u65,u66,u67,u68,u69,u70,u71,u72,u73,u74,u75,u76,u77,u78,u79,u80,u81,u82,u83,u84,u85,u86,u87,u88,u89,u90,u91,u92,u93,u94,u95,u96,u97,u98,u99,u100,u101,u102,u103,u104,u105,u106,u107,u108,u109,u110,u111,u112,u113,u114,u115,u116,u117,u118,u119,u120,u121,u122,u123,u124,u125,u126,u127,u128,u129,u130,u131,u132,u133,u134,u135,u136,u137,u138,u139,u140,u141,u142,u143,u144,u145,u146,u147,u148,u149,u150,u151,u152,u153,u154,u155,u156,u157,u158,u159,u160,u161,u162,u163,u164,u165,u166,u167,u168,u169,u170,u171,u172,u173,u174,u175,u176,u177,u178,u179,u180,u181,u182,u183,u184,u185,u186,u187,u188,u189,u190,u191,u192],defers:=[] } w5:=by
 obtain ⟨i0,hi0,hz0,hz1,hz2⟩:=info_parts Tryz.infoString;obtain ⟨j0,hj0,hy0,hy1,hy2⟩:=info_parts Tryz.infoRowE;rw [show tlN (Tryz.f64.body.getD .skip) 4=Code.seq _ _ from rfl];obtain ⟨ch,hch⟩:∃ ch,ch=gwC k:=⟨_,rfl⟩;have hc3:=gwC_le k;rw [<- hch] at hc3;have Hch:Hid (ch=gwC k):=hch;clear hch
 go_upto_if 50 with fail
 go_cut [10] (fun v wx=>v=.int .i64 (ch:Int)∧Below w5.heap.size w5 wx)
 case first =>
  have hch:=Hch.out;unfold gwC at hch
  by_cases h5:5<=k % 8
  ·rw [if_pos h5] at hch
   have h5i:(5:Int)<=(k:Int) % 8:=by omega
   have e1:2+(k:Int) % 8 / 7=(ch:Int):=by omega
   clear Hch hch HKh Hroom Hf H5;go_wp2
   go_meet;exact ⟨by rw [<- e1],kB⟩
  rw [if_neg h5] at hch;have h5i:¬ (5:Int)<=(k:Int) % 8:=by omega
  subst hch;clear Hch HKh Hroom Hf H5;go_wp2
  go_meet;exact ⟨rfl,kB⟩
 case rest =>
  obtain ⟨rfl,hb6⟩:=hcut;obtain ⟨w6,hw6⟩:∃ w6:World,w6=wc:=⟨_,rfl⟩;subst hw6;have H6:Hid (GvB p w w6 bs m (nxQ m q) (.slice (some ⟨be,oe,none⟩) n cap) B (fun o=>(#[.string ic,.string us,.string ⟨#[]⟩,.bool false,.string ⟨#[]⟩,.int .i64 (100+(k:Int) % 7),.slice none 0 0,.slice none 0 0,.string ⟨#[]⟩,.slice none 0 0]:Array Value)[o]?.getD undef)):=H5.out.below hb6;clear H5 hb6
  go_wp2_with fail
  go_loopw [11,12] (fun sv iv wr=>∃ i:Nat,i<=ch∧iv=.int .i64 (i:Int)∧GwRel p w bs m (nxQ m q) (.slice (some ⟨be,oe,none⟩) n cap) B (fun o=>(#[.string ic,.string us,.string ⟨#[]⟩,.bool false,.string ⟨#[]⟩,.int .i64 (100+(k:Int) % 7),.slice none 0 0,.slice none 0 0,.string ⟨#[]⟩,.slice none 0 0]:Array Value)[o]?.getD undef) k n E A Aa Ca i sv wr) (fun _ iv _=>ch - (intOf iv).toNat)
  case atStart=>exact ⟨0,nz,rfl,gwRel_0 H6.out rfl⟩
  case round =>
   clear H6;obtain ⟨i,hi,rfl,hrel⟩:=hrel
   by_cases hlt:i<ch
   ·have Hrel:Hid (_):=hrel
    clear hrel;have hn0:¬ (n:Int)=0:=by omega
    have hn0b:((n:Int) == 0)=false:=by simpa using hn0
    obtain ⟨P,hP⟩:∃ P,P=gwP k n i:=⟨_,rfl⟩;have hPn:P<n:=by rw [hP];exact gwP_lt hn
    have HP:Hid (P=gwP k n i):=hP;clear hP
    go_upto_if 74 with fail
    go_cut [13] (fun v wx=>v=.int .i64 (P:Int)∧Below wr.heap.size wr wx)
    case first =>
     have hP:=HP.out;unfold gwP at hP
     by_cases h3:k % 3=0
     ·rw [if_pos h3] at hP
      have h3i:(k:Int) % 3=0:=by omega
      have hq:=Nat.mod_lt i hn;have q0:(0:Int)<=(i:Int) % (n:Int):=by rw [<- Int.natCast_emod];omega
      have q1:(i:Int) % (n:Int)<(n:Int):=by rw [<- Int.natCast_emod];omega
      have e1:(n:Int) - 1 - (i:Int) % (n:Int)=(P:Int):=by rw [<- Int.natCast_emod];omega
      clear HKh Hroom Hf Hrel HP hP;go_wp2
      go_meet;exact ⟨by rw [<- e1],kB⟩
     rw [if_neg h3] at hP;have h3i:¬ (k:Int) % 3=0:=by omega
     have hq:=Nat.mod_lt (k / 8 % 4+i * 3) hn;have ez:((k:Int) / 8 % 4+(i:Int) * 3) % (n:Int)=(((k / 8 % 4+i * 3) % n:Nat):Int):=by simp
     have q0:(0:Int)<=((k:Int) / 8 % 4+(i:Int) * 3) % (n:Int):=by rw [ez];omega
     have q1:((k:Int) / 8 % 4+(i:Int) * 3) % (n:Int)<(n:Int):=by rw [ez];omega
     have e1:(n:Int) - 1 - ((k:Int) / 8 % 4+(i:Int) * 3) % (n:Int)=(P:Int):=by rw [ez];omega
     clear HKh Hroom Hf Hrel HP hP ez;go_wp2
     go_meet;exact ⟨by first|(rw [<- e1];done)|(rw [<- e1];congr 1;unfold wrap64;omega),kB⟩
    case rest =>
     obtain ⟨rfl,hb7⟩:=hcut;obtain ⟨w7,hw7⟩:∃ w7:World,w7=wc:=⟨_,rfl⟩;subst hw7;have hr7:=GwRel.below Hrel.out hb7;clear Hrel hb7;obtain ⟨pv,hT⟩:=hr7;obtain ⟨pl,hpl⟩:∃ pl,pl=(gwL k n i).map fun j=>(E j).id:=⟨_,rfl⟩
     obtain ⟨vs,hvs⟩:∃ vs,vs=(gwL k n i).map fun j=>Value.slice (Aa j) (A j).length (Ca j):=⟨_,rfl⟩
     rw [<- hpl,<- hvs] at hT;obtain ⟨hV,hEv,hSt⟩:=HKh.out w7 hT.g.a.dw.2;obtain ⟨_,_,_,_,_,_,hec,hok⟩:=hEv P hPn;obtain ⟨x,hx⟩:∃ x,x=(E P).id:=⟨_,rfl⟩
     have hids:∀ s ∈ pl,s.size<=maxLen:=by
      rw [hpl];intro s hs;obtain ⟨j,hj,rfl⟩:=List.mem_map.1 hs;obtain ⟨_,_,_,_,_,_,_,ho⟩:=hEv j (gwL_lt hn i j hj);exact ho.hid
     have ho7:OwnL w7 (B+1) pv pl:=hT.o;obtain ⟨pa,cp,hpv,hsp,_⟩:=ho7.sl hids;subst hpv;have hpl3:pl.length<=3:=by rw [hpl,List.length_map];have:=gwL_len k n i;omega
     have hvl3:vs.length<=3:=by rw [hvs,List.length_map];have:=gwL_len k n i;omega
     obtain ⟨hs,hhs⟩:∃ hs,hs=decide (gwP k n i ∈ gwL k n i):=⟨_,rfl⟩
     have HHas:Hid (∀ W,Below w7.heap.size w7 W->Calls Tryz.prog 105 #[.slice pa pl.length cp,.string x] W fun e w'=>e=.returned (.bool hs)∧w'=W):=fun W hW=>by
      have:=has_sl x W (hsp.below hW);rw [hx,hpl,HP.out,gw_has Hroom.out hn,<- hhs,<- hpl,<- HP.out,<- hx] at this;exact this
     have HS:Hid (∀ W,GvA p w W bs m (nxQ m q) (.slice (some ⟨be,oe,none⟩) n cap)->W.cell? ⟨w.heap.size,0,none⟩=some (.slice (some ⟨be,oe,none⟩) n cap)∧W.cell? ⟨be,oe+P * 10,none⟩=some (.string x)):=fun W hW=>by
      obtain ⟨_,hEv,_⟩:=HKh.out W hW.dw.2;obtain ⟨_,_,_,_,_,_,hec,_⟩:=hEv P hPn;exact ⟨hW.r,by rw [hx];exact hec.c0⟩
     have HS7:Hid (∀ W,Below w7.heap.size w7 W->W.cell? ⟨w.heap.size,0,none⟩=some (.slice (some ⟨be,oe,none⟩) n cap)∧W.cell? ⟨be,oe+P * 10,none⟩=some (.string x)∧W.cell? ⟨B,6,none⟩=some (.slice pa pl.length cp)):=fun W hW=>by
      have h1:=hT.below hW;have h2:=HS.out W h1.g.a;exact ⟨h2.1,h2.2,h1.g.b 6 (by decide)⟩
     have HT7:Hid (GwT p w w7 bs m (nxQ m q) (.slice (some ⟨be,oe,none⟩) n cap) B (fun o=>if o=6 then (.slice pa pl.length cp) else (#[.string ic,.string us,.string ⟨#[]⟩,.bool false,.string ⟨#[]⟩,.int .i64 (100+(k:Int) % 7),.slice none 0 0,.slice none 0 0,.string ⟨#[]⟩,.slice none 0 0]:Array Value)[o]?.getD undef) pl u11 vs):=hT;have Hx:Hid (x=(E P).id):=hx;have Hpl:Hid (pl=(gwL k n i).map fun j=>(E j).id):=hpl;have Hvs:Hid (vs=(gwL k n i).map fun j=>Value.slice (Aa j) (A j).length (Ca j)):=hvs;have Hhs:Hid (hs=decide (gwP k n i ∈ gwL k n i)):=hhs;have hrf:Below w7.heap.size w7 w7:=kB;have hP0:(0:Int)<=(P:Int):=by omega
     have hPi:(P:Int)<(n:Int):=by omega
     clear hT hV hEv hSt hec hok hx hids ho7 hsp hpl hvs hhs
     go_upto_region 14 with fail
     go_cut [90] (fun v wx=>v=.bool (!hs)∧Below w7.heap.size w7 wx)
     case first =>
      clear HKh Hroom Hf HT7 HS;refine wp_region_held_drew (S:=fun W=>W.cell? ⟨w.heap.size,0,none⟩=some (.slice (some ⟨be,oe,none⟩) n cap)∧W.cell? ⟨be,oe+P * 10,none⟩=some (.string x)∧W.cell? ⟨B,6,none⟩=some (.slice pa pl.length cp)) (by kernel_rfl) ?_ (fun hHeld=>?_)
      ·(try dsimp only);exact HS7.out _ (by with_reducible (repeat refine .drew ?_);exact hrf)
      refine tq 0 rfl ?_;simp only [si];refine tq 1 rfl ?_;simp only [si];refine tq 2 rfl ?_;simp only [si];refine tq 3 rfl ?_;simp only [si];refine tq 4 rfl ?_;simp only [si];refine tq 5 rfl ?_;simp only [si];refine tq 6 rfl ?_;simp only [si];refine tq 7 rfl ?_;simp only [si];refine rd 8 rfl fun K hK=>?_
      go_simp
      go_at_call 105
      refine (HHas.out _ (by with_reducible (repeat refine .drew ?_);exact hrf)).mono ?_;rintro e w2 ⟨rfl,rfl⟩;clear HHas;try dsimp only
      refine hK.out _ _ ?_ (fun hHeld=>?_)
      ·(try dsimp only);exact HS7.out _ (by with_reducible (repeat refine .drew ?_);exact hrf)
      clear hK K;try simp only [si]
      refine tq 9 rfl ?_;simp only [si];refine wpAnyH_done (by kernel_rfl) ?_ _
      (try go_wp2_with fail)
      go_meet;exact ⟨rfl,by first|exact hrf|exact hrf.drew⟩
     case rest =>
      obtain ⟨rfl,hb8⟩:=hcut;obtain ⟨w8,hw8⟩:∃ w8:World,w8=wc:=⟨_,rfl⟩;subst hw8;have HT8:Hid (GwT p w w8 bs m (nxQ m q) (.slice (some ⟨be,oe,none⟩) n cap) B (fun o=>if o=6 then (.slice pa pl.length cp) else (#[.string ic,.string us,.string ⟨#[]⟩,.bool false,.string ⟨#[]⟩,.int .i64 (100+(k:Int) % 7),.slice none 0 0,.slice none 0 0,.string ⟨#[]⟩,.slice none 0 0]:Array Value)[o]?.getD undef) pl u11 vs):=HT7.out.below hb8;clear HT7 HS7 HHas hb8 hrf;cases hs
      case true =>
       have Hm:Hid (gwP k n i ∈ gwL k n i):=by have:=Hhs.out;unfold Hid;simpa using this.symm
       have HR:Hid (GwRel p w bs m (nxQ m q) (.slice (some ⟨be,oe,none⟩) n cap) B (fun o=>(#[.string ic,.string us,.string ⟨#[]⟩,.bool false,.string ⟨#[]⟩,.int .i64 (100+(k:Int) % 7),.slice none 0 0,.slice none 0 0,.string ⟨#[]⟩,.slice none 0 0]:Array Value)[o]?.getD undef) k n E A Aa Ca (i+1) u11 w8):=gwRel_skip ⟨_,by rw [<- Hpl.out,<- Hvs.out];exact HT8.out⟩ Hm.out;clear HT8 HKh Hroom Hf HS;go_wp2
       exact ⟨⟨i+1,by omega,by go_num,HR.out⟩,by simp [intOf];omega⟩
      case false =>
       have Hm:Hid (¬ gwP k n i ∈ gwL k n i):=by have:=Hhs.out;unfold Hid;simpa using this.symm
       go_upto_region 15 with fail
       go_cut [100] (fun v wx=>∃ pv',GwT p w wx bs m (nxQ m q) (.slice (some ⟨be,oe,none⟩) n cap) B (fun o=>if o=6 then pv' else (#[.string ic,.string us,.string ⟨#[]⟩,.bool false,.string ⟨#[]⟩,.int .i64 (100+(k:Int) % 7),.slice none 0 0,.slice none 0 0,.string ⟨#[]⟩,.slice none 0 0]:Array Value)[o]?.getD undef) (pl ++ [x]) u11 vs)
       case first =>
        have hA8:=HT8.out.g.a;have y6:w8.cell? ⟨B,6,none⟩=some (.slice pa pl.length cp):=HT8.out.g.b 6 (by decide);have y6b:(w8.alloc (.cells #[.string x] 9)).cell? ⟨B,6,none⟩=some (.slice pa pl.length cp):=(HT8.out.g.below bA).b 6 (by decide);have HO:Hid (∀ W,Below w8.heap.size w8 W->W.ownsRow (B+1) 9 1 (.slice pa pl.length cp) pl.length (pl.map Value.string)):=fun W hW=>(HT8.out.below hW).o
        have hm1:pl.length+1<=maxLen:=by unfold maxLen;omega
        have hm2:(pl.length+1) * 16<=140737488355328:=by omega
        have hBh:=HT8.out.g.hi;clear HKh Hroom Hf;refine wp_region_held_drew (S:=fun W=>W.cell? ⟨w.heap.size,0,none⟩=some (.slice (some ⟨be,oe,none⟩) n cap)∧W.cell? ⟨be,oe+P * 10,none⟩=some (.string x)) (by kernel_rfl) ?_ (fun hHeld=>?_)
        ·(try dsimp only);exact HS.out _ (hA8.below (by first|with_reducible exact kB|with_reducible exact kB.drew|with_reducible exact kB.drew.drew|with_reducible exact kB.drew.drew.drew))
        refine tq 0 rfl ?_;simp only [si];refine tq 2 rfl ?_;simp only [si];refine tq 3 rfl ?_;simp only [si];refine tq 4 rfl ?_;simp only [si];refine tq 5 rfl ?_;simp only [si];refine tq 6 rfl ?_;simp only [si];refine tq 7 rfl ?_;simp only [si];refine wpAnyH_ready (rs:=[1,8]) (by kernel_rfl) (by simp) ?_;refine AllReadyH.cons rfl (fun K hK=>?_) (AllReadyH.cons rfl (fun K hK=>?_) AllReadyH.nil)
        ·go_simp
         refine hK.out _ _ ?_ (fun hHeld=>?_)
         ·(try dsimp only);exact HS.out _ (hA8.below (by first|with_reducible exact kB|with_reducible exact kB.drew|with_reducible exact kB.drew.drew|with_reducible exact kB.drew.drew.drew))
         clear hK K;try simp only [si]
         refine rd 8 rfl fun K hK=>?_
         go_simp;refine hK.out _ _ ?_ (fun hHeld=>?_)
         ·(try dsimp only);exact HS.out _ (hA8.below (by first|exact bA|exact bA.drew|exact kB.drew.alloc nL _|exact (kB.drew.alloc nL _).drew))
         clear hK K;try simp only [si]
         refine rd 9 rfl fun K hK=>?_
         refine step_append_lies _ (by rfl) _ _ _ (by rfl) (B+1) 9 i0 _ 1 16 Tryz.underlying27 hi0 hz0 hz1 hz2 rfl (by decide) (.slice pa pl.length cp) pl.length (pl.map Value.string) (by rfl) (HO.out _ (by first|exact bA|exact bA.drew|exact kB.drew.alloc nL _|exact (kB.drew.alloc nL _).drew)) ⟨w8.heap.size,0,none⟩ 1 1 [.string x] (by rfl) (by rfl) (one_cells _ _ _) (one_one _) (by decide) hm1 hm2 (by simp;omega) (w8.heap.size+1) (by simp) ?_;intro gg cq w4 hown4 hgr4 hat4 hlt4;have hG4:=(HT8.out.g.below (by first|exact bA|exact bA.drew|exact kB.drew.alloc nL _|exact (kB.drew.alloc nL _).drew)).grow hp hgr4 (fun b hb=>by have:=(ownsRow_blk (HO.out w8 kB) b hb).1;omega);have z6:w4.cell? ⟨B,6,none⟩=some (.slice pa pl.length cp):=hG4.b 6 (by decide);have f6:=hG4.f0 6;refine hK.out _ _ ?_ (fun hHeld=>?_)
         ·(try dsimp only);exact HS.out _ (by first|exact hG4.a|exact hG4.a.below kB.drew)
         clear hK K;try simp only [si]
         refine tq 10 rfl ?_;simp only [si];refine rd 11 rfl fun K hK=>?_
         go_simp;refine hK.out _ _ ?_ (fun hHeld=>?_)
         ·(try dsimp only);exact HS.out _ (by first|exact (hG4.set hp 6 (by decide) _).a|exact (hG4.set hp 6 (by decide) _).a.below kB.drew)
         clear hK K;try simp only [si]
         refine wpAnyH_done (by kernel_rfl) ?_ _
         (try go_wp2_with fail)
         go_meet;have hS:=HT8.out.snocP (X:=_) hp (by first|exact bA|exact bA.drew|exact kB.drew.alloc nL _|exact (kB.drew.alloc nL _).drew) hown4 hgr4 (hat4.imp (fun q=>q) (fun q=>by simp;omega));refine ⟨.slice (some ⟨gg,0,none⟩) (pl.length+1) cq,(GwT.congr (by first|with_reducible exact hS|with_reducible exact hS.below kB.drew) (fun o ho=>?_))⟩
         by_cases e:o=6
         ·subst e;rfl
         rw [if_neg e,if_neg e];first|rfl|(show _=_;rw [if_neg e])
        go_simp;refine hK.out _ _ ?_ (fun hHeld=>?_)
        ·(try dsimp only);exact HS.out _ (hA8.below (by first|exact bA|exact bA.drew|exact kB.drew.alloc nL _|exact (kB.drew.alloc nL _).drew))
        clear hK K;try simp only [si]
        refine rd 1 rfl fun K hK=>?_
        go_simp;refine hK.out _ _ ?_ (fun hHeld=>?_)
        ·(try dsimp only);exact HS.out _ (hA8.below (by first|exact bA|exact bA.drew|exact kB.drew.alloc nL _|exact (kB.drew.alloc nL _).drew))
        clear hK K;try simp only [si]
        refine rd 9 rfl fun K hK=>?_
        refine step_append_lies _ (by rfl) _ _ _ (by rfl) (B+1) 9 i0 _ 1 16 Tryz.underlying27 hi0 hz0 hz1 hz2 rfl (by decide) (.slice pa pl.length cp) pl.length (pl.map Value.string) (by rfl) (HO.out _ (by first|exact bA|exact bA.drew|exact kB.drew.alloc nL _|exact (kB.drew.alloc nL _).drew)) ⟨w8.heap.size,0,none⟩ 1 1 [.string x] (by rfl) (by rfl) (one_cells _ _ _) (one_one _) (by decide) hm1 hm2 (by simp;omega) (w8.heap.size+1) (by simp) ?_;intro gg cq w4 hown4 hgr4 hat4 hlt4;have hG4:=(HT8.out.g.below (by first|exact bA|exact bA.drew|exact kB.drew.alloc nL _|exact (kB.drew.alloc nL _).drew)).grow hp hgr4 (fun b hb=>by have:=(ownsRow_blk (HO.out w8 kB) b hb).1;omega);have z6:w4.cell? ⟨B,6,none⟩=some (.slice pa pl.length cp):=hG4.b 6 (by decide);have f6:=hG4.f0 6;refine hK.out _ _ ?_ (fun hHeld=>?_)
        ·(try dsimp only);exact HS.out _ (by first|exact hG4.a|exact hG4.a.below kB.drew)
        clear hK K;try simp only [si]
        refine tq 10 rfl ?_;simp only [si];refine rd 11 rfl fun K hK=>?_
        go_simp;refine hK.out _ _ ?_ (fun hHeld=>?_)
        ·(try dsimp only);exact HS.out _ (by first|exact (hG4.set hp 6 (by decide) _).a|exact (hG4.set hp 6 (by decide) _).a.below kB.drew)
        clear hK K;try simp only [si]
        refine wpAnyH_done (by kernel_rfl) ?_ _
        (try go_wp2_with fail)
        go_meet;have hS:=HT8.out.snocP (X:=_) hp (by first|exact bA|exact bA.drew|exact kB.drew.alloc nL _|exact (kB.drew.alloc nL _).drew) hown4 hgr4 (hat4.imp (fun q=>q) (fun q=>by simp;omega));refine ⟨.slice (some ⟨gg,0,none⟩) (pl.length+1) cq,(GwT.congr (by first|with_reducible exact hS|with_reducible exact hS.below kB.drew) (fun o ho=>?_))⟩
        by_cases e:o=6
        ·subst e;rfl
        rw [if_neg e,if_neg e];first|rfl|(show _=_;rw [if_neg e])
       case rest =>
        obtain ⟨pv9,hT9⟩:=hcut;obtain ⟨w9,hw9⟩:∃ w9:World,w9=wc:=⟨_,rfl⟩;subst hw9;obtain ⟨_,_,hSt⟩:=HKh.out w9 hT9.g.a.dw.2;obtain ⟨hca,_⟩:=hSt P (by omega);have HT9:Hid (GwT p w w9 bs m (nxQ m q) (.slice (some ⟨be,oe,none⟩) n cap) B (fun o=>if o=6 then pv9 else (#[.string ic,.string us,.string ⟨#[]⟩,.bool false,.string ⟨#[]⟩,.int .i64 (100+(k:Int) % 7),.slice none 0 0,.slice none 0 0,.string ⟨#[]⟩,.slice none 0 0]:Array Value)[o]?.getD undef) (pl ++ [x]) u11 vs):=hT9;have hBh:=hT9.g.hi;have HO9:Hid (w9.ownsRow (B+1) 26 1 u11 vs.length vs):=hT9.r;have hm1:vs.length+1<=maxLen:=by unfold maxLen;omega
        have hm2:(vs.length+1) * 24<=140737488355328:=by omega
        have hPa:(P:Int)<(na:Int):=by omega
        obtain ⟨ea,hea⟩:∃ ea,ea=Aa P:=⟨_,rfl⟩;obtain ⟨el,hel⟩:∃ el,el=(A P).length:=⟨_,rfl⟩;obtain ⟨ec,hec⟩:∃ ec,ec=Ca P:=⟨_,rfl⟩;rw [<- hea,<- hel,<- hec] at hca;have HE:Hid (Value.slice ea el ec=.slice (Aa P) (A P).length (Ca P)):=by unfold Hid;rw [hea,hel,hec]
        clear hT9 hSt HT8 HS hea hel hec
        go_wp2_with (at_builtin;refine wpList_append_lies _ rfl _ _ 104 rfl (B+1) 26 j0 (.slice none 0 0) 1 24 Tryz.underlying104 hj0 hy0 hy1 hy2 rfl (by decide) _ _ _ rfl (World.ownsRow.alloc HO9.out _) ⟨w9.heap.size,0,none⟩ 1 1 [.slice ea el ec] rfl rfl (one_cellS _ _ _) (one_slice _ ⟨_,_,_,rfl⟩) (by decide) hm1 hm2 (by simp;omega) (w9.heap.size+1) (by simp) ?_;intro gg cq w4 hown4 hgr4 hat4 hlt4)
        refine ⟨⟨i+1,by omega,by go_num,gwRel_put (pv:=pv9) ?_ Hm.out⟩,by simp [intOf];omega⟩;rw [<- Hpl.out,<- Hvs.out,<- HP.out,<- Hx.out,<- HE.out];exact HT9.out.snocS hp bA hown4 hgr4 (hat4.imp (fun q=>q) (fun q=>by simp;omega))
   obtain ⟨pv,hT⟩:=hrel;rw [show i=ch by omega,Hch.out] at hT;have HT:Hid (_):=hT;clear hT;obtain ⟨L,hL⟩:∃ L,L=gwL k n (gwC k):=⟨_,rfl⟩
   go_upto_region 17 with fail
   refine l2GwC p w wr hp hn h300 hk Hk Hic hiz Hus hna hna2 hcapn Hroom Hf HKh hlo HT ?_;assumption
end Go.Proofs.YtkdalopokdhndaaGreat
