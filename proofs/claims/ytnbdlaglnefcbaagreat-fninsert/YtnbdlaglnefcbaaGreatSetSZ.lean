import Derived.Test.YtnbdlaglnefcbaaGreatRmZ
import Derived.Deep.DeepCutAuto
import Derived.Deep.CutBlock
import Derived.Sort.Walk0
import Derived.Deep.AppendSrc
namespace Go.Proofs.YtnbdlaglnefcbaaGreat
open Go.RowKit
def setL (l:List Ent)(e:Ent)(keep:Bool):List Ent :=
 (l.takeWhile fun x=>befB x e) ++ ((if keep || !e.id.toList.isEmpty then [e] else []) ++ l.filter fun x=>befB e x)
theorem takeWhile_at (l:List Ent)(p:Ent->Bool)(k:Nat)(hk:k<=l.length)(h0:∀ i,i<k->p (eAt l i)=true)(h1:k=l.length∨p (eAt l k)=false):l.takeWhile p=l.take k:=by
 induction l generalizing k with
 | nil=>simp
 | cons x l ih =>
  cases k with
  | zero =>
   rcases h1 with h1|h1
   ·simp at h1
   ·have:p x=false:=by simpa [eAt] using h1
    simp [this]
  | succ k =>
   have hx:p x=true:=by simpa [eAt] using h0 0 (by omega)
   have:=ih k (by simpa using hk) (fun i hi=>by simpa [eAt] using h0 (i+1) (by omega)) (by
    rcases h1 with h1|h1
    ·exact Or.inl (by simpa using h1)
    ·exact Or.inr (by simpa [eAt] using h1))
   simp [hx,this]
theorem take_snocE (l:List Ent)(k:Nat)(h:k<l.length):l.take (k+1)=l.take k ++ [eAt l k]:=by
 rw [List.take_succ_eq_append_getElem h,eAt_get l k h]
theorem filter_snocE (l:List Ent)(p:Ent->Bool)(k:Nat)(h:k<l.length):(l.take (k+1)).filter p=(l.take k).filter p ++ (if p (eAt l k) then [eAt l k] else []):=by
 rw [take_snocE l k h,List.filter_append];cases hp:p (eAt l k) <;> simp [hp]
theorem heap_alloc_new2 (w:World)(o o2:Obj):((w.alloc o).alloc o2).heap[w.heap.size+1]?=some o2:=by
 show ((w.heap.push o).push o2)[w.heap.size+1]?=_
 rw [Array.getElem?_push,if_pos (by simp)]
theorem encE_cells (w1:World)(x:Ent)(t:TypeId)(j:Nat)(u:Value)(h:(encE x)[j]?=some u):(w1.alloc (.cells #[.string x.ty,.string x.key,.string x.id] t)).cell? ((⟨w1.heap.size,0,none⟩:Addr).add j)=some u:=by
 have hj:j<3:=by
  rcases Nat.lt_or_ge j 3 with h'|h'
  ·exact h'
  ·rw [List.getElem?_eq_none (by simpa [encE] using h')] at h;cases h
 match j,hj,h with
 | 0,_,h=>rw [show (⟨w1.heap.size,0,none⟩:Addr).add 0=⟨w1.heap.size,0,none⟩ from rfl,World.cell?_alloc_at _ _ _ _ rfl];exact h
 | 1,_,h=>rw [show (⟨w1.heap.size,0,none⟩:Addr).add 1=⟨w1.heap.size,1,none⟩ from rfl,World.cell?_alloc_at _ _ _ _ rfl];exact h
 | 2,_,h=>rw [show (⟨w1.heap.size,0,none⟩:Addr).add 2=⟨w1.heap.size,2,none⟩ from rfl,World.cell?_alloc_at _ _ _ _ rfl];exact h
theorem encE_one (x:Ent)(u:Value)(h:u ∈ encE x):u.oneCell'=true:=by
 simp only [encE,List.mem_cons,List.not_mem_nil,or_false] at h
 rcases h with rfl|rfl|rfl <;> rfl
theorem OwnE.row {w:World}{base:Nat}{v:Value}{l:List Ent}(h:OwnE w base v l)(k:Nat)(hk:v.ownBlock=some k):base<=k:=by
 rcases h.2 with ⟨rfl,_⟩|⟨g,cap,cur,rfl,hg,_⟩
 ·cases hk
 ·cases hk;exact hg
theorem OwnE.snoc {w:World}{base n:Nat}{v:Value}{l:List Ent}{x:Ent}(h:w.ownsRow base 86 3 v n (encL l ++ encE x))(hn:n=l.length+1):OwnE w base v (l ++ [x]):=by
 subst hn
 rw [encL_snoc] at h
 unfold OwnE
 rw [List.length_append]
 exact h
theorem setHead_len (l:List Ent)(e0:Ent)(keep:Bool)(k:Nat):(((l.takeWhile fun x=>befB x e0) ++ (if (keep || !e0.id.toList.isEmpty) then [e0] else [])) ++ (l.take k).filter fun x=>befB e0 x).length<=l.length+(1+l.length):=by
 rw [List.length_append,List.length_append]
 have h1:(l.takeWhile fun x=>befB x e0).length<=l.length:=(List.takeWhile_sublist _).length_le
 have h2:((l.take k).filter fun x=>befB e0 x).length<=l.length:=Nat.le_trans (List.length_filter_le _ _) (by rw [List.length_take];omega)
 split
 ·rw [List.length_cons,List.length_nil];omega
 ·rw [List.length_nil];omega
theorem OwnE.base_le {w:World}{base base':Nat}{v:Value}{l:List Ent}(h:OwnE w base v l)(hb:base'<=base):OwnE w base' v l:=by
 obtain ⟨h1,h2⟩:=h
 refine ⟨h1,?_⟩
 rcases h2 with h2|⟨g,cap,cur,hv,hg,r⟩
 ·exact Or.inl h2
 ·exact Or.inr ⟨g,cap,cur,hv,Nat.le_trans hb hg,r⟩
set_option maxRecDepth 100000 in
set_option maxHeartbeats 4000000 in
theorem set_any (b off cap:Nat)(l:List Ent)(e0:Ent)(keep:Bool)(w:World)(hr:l.length<=1000000)(hb:b<w.heap.size)
  (c1:∀ i,i<l.length->w.cell? ⟨b,off+i * 3,none⟩=some (.string (eAt l i).ty)) (c2:∀ i,i<l.length->w.cell? ⟨b,off+i * 3+1,none⟩=some (.string (eAt l i).key)) (c3:∀ i,i<l.length->w.cell? ⟨b,off+i * 3+2,none⟩=some (.string (eAt l i).id)) :
  Calls Tryz.prog 42 #[.slice (some ⟨b,off,none⟩) l.length cap,entV e0,.bool keep] w fun e w'=>∃ v,e=.returned v∧OwnE w' w.heap.size v (setL l e0 keep)∧Below w.heap.size w w':=by
 obtain ⟨i0,hi,hz0,hz1,hz2⟩:=info_parts Tryz.infoEntry
 go_enter Tryz.func42,Tryz.ntmps42
 go_upto_block 0 with fail
 go_cut [7,8] from 10 (fun v i wr=>∃ k:Nat,k<=l.length∧i=.int .i64 k∧OwnE wr (w.heap.size+1) v (l.takeWhile fun x=>befB x e0)∧Below (w.heap.size+1) (w.alloc (.cells #[.string e0.ty,.string e0.key,.string e0.id] 86)) wr)
 case first =>
  go_wp2_with fail
  go_loopw [7,8] (fun v i wr=>∃ k:Nat,k<=l.length∧i=.int .i64 k∧OwnE wr (w.heap.size+1) v (l.take k)∧Hid (∀ i,i<k->befB (eAt l i) e0=true)∧Below (w.heap.size+1) (w.alloc (.cells #[.string e0.ty,.string e0.key,.string e0.id] 86)) wr) (fun _ i _=>l.length - (intOf i).toNat)
  case atStart=>exact ⟨0,Nat.zero_le _,rfl,⟨rfl,Or.inr ⟨w.heap.size+1,0,#[],rfl,Nat.le_refl _,by exact heap_alloc_new2 _ _ _,Nat.le_refl _,by decide,rfl,rfl⟩⟩,fun i hi=>absurd hi (Nat.not_lt_zero _),(Below.refl _ _).alloc (by simp) _⟩
  case round =>
   obtain ⟨k,hk,rfl,hown,hto,hbel⟩:=hrel
   have hbox:=box_cells hbel
   have hbw:b<w.heap.size+1:=by omega
   have hcell:∀ o,wr.cell? ⟨b,o,none⟩=w.cell? ⟨b,o,none⟩:=fun o=>(hbel.cell (by exact hbw)).trans (World.cell?_alloc_past _ _ _ hb)
   have hszr:w.heap.size+1<=wr.heap.size:=by simpa using hbel.size
   by_cases hlt:k<l.length
   ·have a1:wr.cell? ⟨b,off+k * 3,none⟩=some (.string (eAt l k).ty):=(hcell _).trans (c1 k hlt)
    have a2:wr.cell? ⟨b,off+k * 3+1,none⟩=some (.string (eAt l k).key):=(hcell _).trans (c2 k hlt)
    have a3:wr.cell? ⟨b,off+k * 3+2,none⟩=some (.string (eAt l k).id):=(hcell _).trans (c3 k hlt)
    have o1:wr.cell? ⟨w.heap.size,0,none⟩=some (.string e0.ty):=hbox 0
    have o2:wr.cell? ⟨w.heap.size,1,none⟩=some (.string e0.key):=hbox 1
    have o3:wr.cell? ⟨w.heap.size,2,none⟩=some (.string e0.id):=hbox 2
    have hd:decide ((k:Int)<(l.length:Int))=true:=by simp;omega
    clear hcell hbox c1 c2 c3 hbw
    go_wp2_with fail
    go_region_with (go_at_call 64;refine (before_any (eAt l k) e0 _).mono ?_;rintro e w1 ⟨rfl,hb1⟩)
    all_goals
     have hb2:Below wr.heap.size wr w1:=Below.trans (by first|exact Below.refl _ _|exact (Below.refl _ _).drew|exact (Below.refl _ _).drew.drew) hb1
     have hown1:=hown.below hb2
     have hbel1:=hbel.trans (hb2.mono hszr)
     have hsz1:w.heap.size+1<=w1.heap.size:=by simpa using hbel1.size
     have q1:w1.cell? ⟨b,off+k * 3,none⟩=some (.string (eAt l k).ty):=(hb2.cell (by show b<_;omega)).trans a1
     have q2:w1.cell? ⟨b,off+k * 3+1,none⟩=some (.string (eAt l k).key):=(hb2.cell (by show b<_;omega)).trans a2
     have q3:w1.cell? ⟨b,off+k * 3+2,none⟩=some (.string (eAt l k).id):=(hb2.cell (by show b<_;omega)).trans a3
     clear a1 a2 a3 o1 o2 o3 hb1 hb2 hown hbel hszr hd
     have hm1:(l.take k).length+1<=maxLen:=by unfold maxLen;rw [List.length_take];omega
     have hm2:((l.take k).length+1) * 48<=140737488355328:=by rw [List.length_take];omega
     have hm3:∀ o,w.heap.size+1<=(w1.alloc o).heap.size:=fun o=>by simp;omega
     cases hB:befB (eAt l k) e0
     ·go_wp2
      go_meet
      case rel=>exact ⟨k,hk,rfl,by rw [takeWhile_at l _ k hk hto.out (Or.inr hB)];exact hown1,hbel1⟩
     ·go_wp2_with (at_builtin;refine wpList_append_own _ rfl _ _ 60 rfl (w.heap.size+1) 86 i0 (.agg #[.string ByteArray.empty,.string ByteArray.empty,.string ByteArray.empty]) 3 48 Tryz.underlying60 hi hz0 hz1 hz2 rfl (by decide) _ _ _ rfl (hown1.alloc _) ⟨w1.heap.size,0,none⟩ 1 1 (encE (eAt l k)) rfl rfl (encE_cells _ _ _) (encE_one _) hm1 hm2 (hm3 _) ?_;intro v2 w2 hown2 hgrow2 _)
      have hbel2:=(hbel1.alloc hsz1 _).grown hgrow2 (by simpa using Nat.le_succ_of_le hsz1) (fun k hk=>hown1.row k hk)
      have hown3:OwnE w2 (w.heap.size+1) v2 (l.take (k+1)):=by rw [take_snocE l k hlt];exact OwnE.snoc hown2 (by first|rfl|(simp;omega))
      clear hown2 hgrow2 hown1 hbel1 q1 q2 q3
      go_wp2
      go_roundw
      case rel=>exact ⟨k+1,by omega,by go_num,hown3,fun i hi=>by (by_cases e:i=k;(subst e;exact hB);exact hto.out i (by omega)),hbel2⟩
      case measure=>simp [intOf];omega
   ·have hd:decide ((k:Int)<(l.length:Int))=false:=by simp;omega
    clear hcell hbox c1 c2 c3 hbw
    go_wp2_with fail
    go_quiet (fail)
    go_wp2
    go_meet
    case rel=>exact ⟨k,hk,rfl,by rw [takeWhile_at l _ k hk hto.out (Or.inl (by omega))];exact hown.below (Dr.below ⟨_,rfl⟩ _),hbel.trans (Dr.below ⟨_,rfl⟩ _)⟩
 case rest =>
  obtain ⟨k1,hk1,rfl,hown,hbel⟩:=hcut
  have hszc:w.heap.size+1<=wc.heap.size:=by simpa using hbel.size
  have hbox:=box_cells hbel
  have o1:wc.cell? ⟨w.heap.size,0,none⟩=some (.string e0.ty):=hbox 0
  have o2:wc.cell? ⟨w.heap.size,1,none⟩=some (.string e0.key):=hbox 1
  have o3:wc.cell? ⟨w.heap.size,2,none⟩=some (.string e0.id):=hbox 2
  clear hbox
  go_upto_region 6 with fail
  go_cut [37] from 10 (fun s wx=>s=.bool (keep || !e0.id.toList.isEmpty)∧OwnE wx (w.heap.size+1) u7 (l.takeWhile fun x=>befB x e0)∧Below (w.heap.size+1) (w.alloc (.cells #[.string e0.ty,.string e0.key,.string e0.id] 86)) wx)
  case first =>
   cases keep
   all_goals
    go_wp2
    go_meet
    case rel=>exact ⟨rfl,hown,hbel⟩
  case rest =>
   clear hown hbel o1 o2 o3 hszc
   obtain ⟨rfl,hown,hbel⟩:=hcut
   have hszc:w.heap.size+1<=wc.heap.size:=by simpa using hbel.size
   have hbox:=box_cells hbel
   have o1:wc.cell? ⟨w.heap.size,0,none⟩=some (.string e0.ty):=hbox 0
   have o2:wc.cell? ⟨w.heap.size,1,none⟩=some (.string e0.key):=hbox 1
   have o3:wc.cell? ⟨w.heap.size,2,none⟩=some (.string e0.id):=hbox 2
   clear hbox
   go_upto_if 37 with fail
   go_cut [7] from 10 (fun v wx=>OwnE wx (w.heap.size+1) v ((l.takeWhile fun x=>befB x e0) ++ (if (keep || !e0.id.toList.isEmpty) then [e0] else []))∧Below (w.heap.size+1) (w.alloc (.cells #[.string e0.ty,.string e0.key,.string e0.id] 86)) wx)
   case first =>
    have htw:(l.takeWhile fun x=>befB x e0).length<=l.length:=(List.takeWhile_sublist _).length_le
    have hm1:(l.takeWhile fun x=>befB x e0).length+1<=maxLen:=by unfold maxLen;omega
    have hm2:((l.takeWhile fun x=>befB x e0).length+1) * 48<=140737488355328:=by omega
    have hm3:∀ o,w.heap.size+1<=(wc.alloc o).heap.size:=fun o=>by simp;omega
    cases hc:(keep || !e0.id.toList.isEmpty)
    ·go_wp2
     go_meet
     case rel=>exact ⟨by rw [hc,if_neg (by decide),List.append_nil];exact hown,hbel⟩
    ·clear htw
     go_wp2_with (at_builtin;refine wpList_append_own _ rfl _ _ 60 rfl (w.heap.size+1) 86 i0 (.agg #[.string ByteArray.empty,.string ByteArray.empty,.string ByteArray.empty]) 3 48 Tryz.underlying60 hi hz0 hz1 hz2 rfl (by decide) _ _ _ rfl (hown.alloc _) ⟨wc.heap.size,0,none⟩ 1 1 (encE e0) rfl rfl (encE_cells _ _ _) (encE_one _) hm1 hm2 (hm3 _) ?_;intro v2 w2 hown2 hgrow2 _)
     have hbel2:=(hbel.alloc hszc _).grown hgrow2 (by simpa using Nat.le_succ_of_le hszc) (fun k hk=>hown.row k hk)
     have hown3:=OwnE.snoc hown2 rfl
     clear hown2 hgrow2
     go_wp2
     go_meet
     case rel=>exact ⟨by rw [hc,if_pos rfl];exact hown3,hbel2⟩
   case rest =>
    clear hown hbel o1 o2 o3 hszc
    obtain ⟨hown,hbel⟩:=hcut
    go_wp2_with fail
    go_loopw [7,9] (fun v i wr=>∃ k:Nat,k<=l.length∧i=.int .i64 k∧OwnE wr (w.heap.size+1) v (((l.takeWhile fun x=>befB x e0) ++ (if (keep || !e0.id.toList.isEmpty) then [e0] else [])) ++ (l.take k).filter fun x=>befB e0 x)∧Below (w.heap.size+1) (w.alloc (.cells #[.string e0.ty,.string e0.key,.string e0.id] 86)) wr) (fun _ i _=>l.length - (intOf i).toNat)
    case atStart=>exact ⟨0,Nat.zero_le _,rfl,by simpa using hown,hbel⟩
    case round =>
     clear hown hbel
     obtain ⟨k,hk,rfl,hown,hbel⟩:=hrel
     have hbox:=box_cells hbel
     have hcell:∀ o,wr.cell? ⟨b,o,none⟩=w.cell? ⟨b,o,none⟩:=fun o=>(hbel.cell (by exact Nat.lt_succ_of_lt hb)).trans (World.cell?_alloc_past _ _ _ hb)
     have hszr:w.heap.size+1<=wr.heap.size:=by simpa using hbel.size
     by_cases hlt:k<l.length
     ·have a1:wr.cell? ⟨b,off+k * 3,none⟩=some (.string (eAt l k).ty):=(hcell _).trans (c1 k hlt)
      have a2:wr.cell? ⟨b,off+k * 3+1,none⟩=some (.string (eAt l k).key):=(hcell _).trans (c2 k hlt)
      have a3:wr.cell? ⟨b,off+k * 3+2,none⟩=some (.string (eAt l k).id):=(hcell _).trans (c3 k hlt)
      have o1:wr.cell? ⟨w.heap.size,0,none⟩=some (.string e0.ty):=hbox 0
      have o2:wr.cell? ⟨w.heap.size,1,none⟩=some (.string e0.key):=hbox 1
      have o3:wr.cell? ⟨w.heap.size,2,none⟩=some (.string e0.id):=hbox 2
      clear hcell hbox c1 c2 c3
      go_wp2_with fail
      go_region_with (go_at_call 64;refine (before_any e0 (eAt l k) _).mono ?_;rintro e w1 ⟨rfl,hb1⟩)
      all_goals
       have hb2:Below wr.heap.size wr w1:=Below.trans (by first|exact Below.refl _ _|exact (Below.refl _ _).drew|exact (Below.refl _ _).drew.drew) hb1
       have hown1:=hown.below hb2
       have hbel1:=hbel.trans (hb2.mono hszr)
       have hsz1:w.heap.size+1<=w1.heap.size:=by simpa using hbel1.size
       have q1:w1.cell? ⟨b,off+k * 3,none⟩=some (.string (eAt l k).ty):=(hb2.cell (by show b<_;omega)).trans a1
       have q2:w1.cell? ⟨b,off+k * 3+1,none⟩=some (.string (eAt l k).key):=(hb2.cell (by show b<_;omega)).trans a2
       have q3:w1.cell? ⟨b,off+k * 3+2,none⟩=some (.string (eAt l k).id):=(hb2.cell (by show b<_;omega)).trans a3
       clear a1 a2 a3 o1 o2 o3 hb1 hb2 hown hbel hszr
       have hll:=setHead_len l e0 keep k
       have hm1:(((l.takeWhile fun x=>befB x e0) ++ (if (keep || !e0.id.toList.isEmpty) then [e0] else [])) ++ (l.take k).filter fun x=>befB e0 x).length+1<=maxLen:=by unfold maxLen;omega
       have hm2:((((l.takeWhile fun x=>befB x e0) ++ (if (keep || !e0.id.toList.isEmpty) then [e0] else [])) ++ (l.take k).filter fun x=>befB e0 x).length+1) * 48<=140737488355328:=by omega
       have hm3:∀ o,w.heap.size+1<=(w1.alloc o).heap.size:=fun o=>by simp;omega
       clear hll
       cases hB:befB e0 (eAt l k)
       ·go_wp2
        go_roundw
        case rel=>exact ⟨k+1,by omega,by go_num,by rw [filter_snocE l _ k hlt,hB];simpa using hown1,hbel1⟩
        case measure=>simp [intOf];omega
       ·go_wp2_with (at_builtin;refine wpList_append_own _ rfl _ _ 60 rfl (w.heap.size+1) 86 i0 (.agg #[.string ByteArray.empty,.string ByteArray.empty,.string ByteArray.empty]) 3 48 Tryz.underlying60 hi hz0 hz1 hz2 rfl (by decide) _ _ _ rfl (hown1.alloc _) ⟨w1.heap.size,0,none⟩ 1 1 (encE (eAt l k)) rfl rfl (encE_cells _ _ _) (encE_one _) hm1 hm2 (hm3 _) ?_;intro v2 w2 hown2 hgrow2 _)
        have hbel2:=(hbel1.alloc hsz1 _).grown hgrow2 (by simpa using Nat.le_succ_of_le hsz1) (fun k hk=>hown1.row k hk)
        have hown3:=OwnE.snoc hown2 rfl
        clear hown2 hgrow2 hown1 hbel1 q1 q2 q3
        go_wp2
        go_roundw
        case rel=>exact ⟨k+1,by omega,by go_num,by rw [filter_snocE l _ k hlt,hB,if_pos rfl,<- List.append_assoc];exact hown3,hbel2⟩
        case measure=>simp [intOf];omega
     ·clear hcell hbox c1 c2 c3
      go_wp2
      go_ret
      refine ⟨_,rfl,?_,?_⟩
      ·have e1:setL l e0 keep=((l.takeWhile fun x=>befB x e0) ++ (if (keep || !e0.id.toList.isEmpty) then [e0] else [])) ++ (l.take k).filter fun x=>befB e0 x:=by rw [setL,List.take_of_length_le (by omega),List.append_assoc]
       rw [e1]
       exact hown.base_le (Nat.le_succ _)
      ·exact bA.trans (hbel.mono (Nat.le_succ _))
set_option maxHeartbeats 1000000 in
theorem set_zero (a:Option Addr)(cap:Nat)(e0:Ent)(keep:Bool)(w:World) :
  Calls Tryz.prog 42 #[.slice a 0 cap,entV e0,.bool keep] w fun e w'=>∃ v,e=.returned v∧OwnE w' w.heap.size v (setL [] e0 keep)∧Below w.heap.size w w':=by
 obtain ⟨i0,hi,hz0,hz1,hz2⟩:=info_parts Tryz.infoEntry
 have hown:OwnE ((w.alloc (.cells #[.string e0.ty,.string e0.key,.string e0.id] 86)).alloc (.cells #[] 86)) (w.heap.size+1) (.slice (some ⟨w.heap.size+1,0,none⟩) 0 0) [] :=
  ⟨rfl,Or.inr ⟨w.heap.size+1,0,#[],rfl,Nat.le_refl _,by exact heap_alloc_new2 _ _ _,Nat.le_refl _,by decide,rfl,rfl⟩⟩
 have hbel:Below w.heap.size w ((w.alloc (.cells #[.string e0.ty,.string e0.key,.string e0.id] 86)).alloc (.cells #[] 86)):=bA.alloc (by simp) _
 go_enter Tryz.func42,Tryz.ntmps42
 go_wp2
 refine wp_loop_rounds 1 ?_
 rw [rounds_succ]
 go_wp2_with fail
 go_quiet (fail)
 have hdr:Below (w.heap.size+1) (w.alloc (.cells #[.string e0.ty,.string e0.key,.string e0.id] 86)) (((w.alloc (.cells #[.string e0.ty,.string e0.key,.string e0.id] 86)).alloc (.cells #[] 86)).drewN nq):=((Below.refl _ _).alloc (by simp) _).trans (Dr.below ⟨_,rfl⟩ _)
 have hown1:OwnE (((w.alloc (.cells #[.string e0.ty,.string e0.key,.string e0.id] 86)).alloc (.cells #[] 86)).drewN nq) (w.heap.size+1) (.slice (some ⟨w.heap.size+1,0,none⟩) 0 0) []:=hown.below (Dr.below ⟨_,rfl⟩ _)
 have hbel1:=hbel.trans (Dr.below ⟨nq,rfl⟩ _)
 clear hown hbel
 generalize (((w.alloc (.cells #[.string e0.ty,.string e0.key,.string e0.id] 86)).alloc (.cells #[] 86)).drewN nq)=w1 at *
 have hbox:=box_cells hdr
 have hsz1:w.heap.size+1<=w1.heap.size:=by simpa using hdr.size
 have o1:w1.cell? ⟨w.heap.size,0,none⟩=some (.string e0.ty):=hbox 0
 have o2:w1.cell? ⟨w.heap.size,1,none⟩=some (.string e0.key):=hbox 1
 have o3:w1.cell? ⟨w.heap.size,2,none⟩=some (.string e0.id):=hbox 2
 clear hbox
 cases hc:(keep || !e0.id.toList.isEmpty)
 ·have hc1:keep=false:=by cases keep <;> simp_all
  have hc2:e0.id.toList.isEmpty=true:=by cases h:e0.id.toList.isEmpty <;> simp_all
  subst hc1
  go_wp2
  refine wp_loop_rounds 1 ?_
  rw [rounds_succ]
  go_wp2
  go_ret
  refine ⟨_,rfl,?_,hbel1⟩
  have e1:setL [] e0 false=[]:=by simp only [setL,List.takeWhile_nil,List.filter_nil,List.nil_append,List.append_nil];rw [hc,if_neg (by decide)]
  rw [e1]
  exact hown1.base_le (Nat.le_succ _)
 ·have hm1:([]:List Ent).length+1<=maxLen:=by decide
  have hm2:(([]:List Ent).length+1) * 48<=140737488355328:=by decide
  have hm3:∀ o,w.heap.size+1<=(w1.alloc o).heap.size:=fun o=>by simp;omega
  have e1:setL [] e0 keep=[e0]:=by simp only [setL,List.takeWhile_nil,List.filter_nil,List.nil_append,List.append_nil];rw [hc,if_pos rfl]
  have E1:Hid (setL [] e0 keep=[e0]):=e1
  clear e1
  by_cases hk:keep=true
  ·subst hk
   clear hc
   go_wp2_with (at_builtin;refine wpList_append_own _ rfl _ _ 60 rfl (w.heap.size+1) 86 i0 (.agg #[.string ByteArray.empty,.string ByteArray.empty,.string ByteArray.empty]) 3 48 Tryz.underlying60 hi hz0 hz1 hz2 rfl (by decide) _ _ _ rfl (hown1.alloc _) ⟨w1.heap.size,0,none⟩ 1 1 (encE e0) rfl rfl (encE_cells _ _ _) (encE_one _) hm1 hm2 (hm3 _) ?_;intro v2 w2 hown2 hgrow2 _)
   have hbel2:=(hdr.alloc hsz1 _).grown hgrow2 (by simpa using Nat.le_succ_of_le hsz1) (fun k hk=>hown1.row k hk)
   have hown3:=OwnE.snoc (l:=[]) hown2 rfl
   clear hown2 hgrow2
   go_wp2
   refine wp_loop_rounds 1 ?_
   rw [rounds_succ]
   go_wp2
   go_ret
   exact ⟨_,rfl,by rw [E1.out];exact hown3.base_le (Nat.le_succ _),bA.trans (hbel2.mono (Nat.le_succ _))⟩
  ·have hk1:keep=false:=by simpa using hk
   subst hk1
   have hc2:e0.id.toList.isEmpty=false:=by simpa using hc
   clear hc hk
   go_wp2_with (at_builtin;refine wpList_append_own _ rfl _ _ 60 rfl (w.heap.size+1) 86 i0 (.agg #[.string ByteArray.empty,.string ByteArray.empty,.string ByteArray.empty]) 3 48 Tryz.underlying60 hi hz0 hz1 hz2 rfl (by decide) _ _ _ rfl (hown1.alloc _) ⟨w1.heap.size,0,none⟩ 1 1 (encE e0) rfl rfl (encE_cells _ _ _) (encE_one _) hm1 hm2 (hm3 _) ?_;intro v2 w2 hown2 hgrow2 _)
   have hbel2:=(hdr.alloc hsz1 _).grown hgrow2 (by simpa using Nat.le_succ_of_le hsz1) (fun k hk=>hown1.row k hk)
   have hown3:=OwnE.snoc (l:=[]) hown2 rfl
   clear hown2 hgrow2
   go_wp2
   refine wp_loop_rounds 1 ?_
   rw [rounds_succ]
   go_wp2
   go_ret
   exact ⟨_,rfl,by rw [E1.out];exact hown3.base_le (Nat.le_succ _),bA.trans (hbel2.mono (Nat.le_succ _))⟩
theorem set_sl {a:Option Addr}{cap:Nat}{l:List Ent}(e0:Ent)(keep:Bool)(w:World)(hr:l.length<=1000000)(h:SlE w a cap l) :
  Calls Tryz.prog 42 #[.slice a l.length cap,entV e0,.bool keep] w fun e w'=>∃ v,e=.returned v∧OwnE w' w.heap.size v (setL l e0 keep)∧Below w.heap.size w w':=by
 rcases h.cells with rfl|⟨b,off,rfl,hb,c1,c2,c3⟩
 ·exact set_zero a cap e0 keep w
 ·exact set_any b off cap l e0 keep w hr hb c1 c2 c3
theorem befB_asym {x e:Ent}(h:befB x e=true):befB e x=false:=by
 unfold befB at h ⊢
 rw [ByteArray.toList_eq,ByteArray.toList_eq,ByteArray.toList_eq,ByteArray.toList_eq] at *
 by_cases ht:x.ty.data.toList=e.ty.data.toList
 ·rw [ht] at h ⊢
  simp only [beq_self_eq_true,if_true,bytesLess_eq,decide_eq_true_eq,decide_eq_false_iff_not] at h ⊢
  exact List.lt_asymm h
 ·have h1:(x.ty.data.toList == e.ty.data.toList)=false:=by simpa using ht
  have h2:(e.ty.data.toList == x.ty.data.toList)=false:=by
   cases hb:(e.ty.data.toList == x.ty.data.toList)
   ·rfl
   ·exact absurd (eq_of_beq hb).symm ht
  rw [h1] at h
  rw [h2]
  simp only [Bool.false_eq_true,if_false,bytesLess_eq,decide_eq_true_eq,decide_eq_false_iff_not] at h ⊢
  exact List.lt_asymm h
theorem split_len {l:List Ent}{p q:Ent->Bool}(h:∀ x,p x=true->q x=false):(l.takeWhile p).length+(l.filter q).length<=l.length:=by
 induction l with
 | nil=>simp
 | cons a l ih =>
  have hf:(l.filter q).length<=l.length:=List.length_filter_le _ _
  cases hp:p a
  ·rw [List.takeWhile_cons_of_neg (by simp [hp])]
   have:((a :: l).filter q).length<=(a :: l).length:=List.length_filter_le _ _
   simpa using this
  ·rw [List.takeWhile_cons_of_pos hp,List.filter_cons_of_neg (by simp [h a hp])]
   simp only [List.length_cons]
   omega
theorem setL_len (l:List Ent)(e:Ent)(keep:Bool):(setL l e keep).length<=l.length+1:=by
 have:=split_len (l:=l) (p:=fun x=>befB x e) (q:=fun x=>befB e x) (fun x hx=>befB_asym hx)
 unfold setL
 rw [List.length_append,List.length_append]
 split
 ·simp only [List.length_singleton];omega
 ·simp only [List.length_nil];omega
theorem setL_mem {l:List Ent}{e x:Ent}{keep:Bool}(h:x ∈ setL l e keep):x ∈ l∨x=e:=by
 unfold setL at h
 rw [List.mem_append,List.mem_append] at h
 rcases h with h|h|h
 ·exact Or.inl ((List.takeWhile_sublist _).subset h)
 ·split at h
  ·exact Or.inr (by simpa using h)
  ·cases h
 ·exact Or.inl (List.mem_filter.1 h).1
def AllOk (l:List Ent):Prop:=∀ x ∈ l,x.ty.size<=maxLen∧x.key.size<=maxLen∧x.id.size<=maxLen
theorem AllOk.at {l:List Ent}(h:AllOk l)(i:Nat)(hi:i<l.length):(eAt l i).ty.size<=maxLen∧(eAt l i).key.size<=maxLen∧(eAt l i).id.size<=maxLen:=h _ (eAt_mem l i hi)
theorem SlE.ok {w:World}{a:Option Addr}{cap:Nat}{l:List Ent}(h:SlE w a cap l):AllOk l:=fun x hx=>by
 obtain ⟨i,hi,e⟩:=List.mem_iff_getElem.1 hx
 rw [<- e,<- eAt_get l i hi]
 exact h.size i hi
theorem AllOk.set {l:List Ent}{e:Ent}{keep:Bool}(h:AllOk l)(he:e.ty.size<=maxLen∧e.key.size<=maxLen∧e.id.size<=maxLen):AllOk (setL l e keep):=fun x hx=>(setL_mem hx).elim (h x) fun e'=>e' ▸ he
theorem encL_one (l:List Ent)(u:Value)(h:u ∈ encL l):u.oneCell'=true:=by
 obtain ⟨x,_,hx⟩:=List.mem_flatMap.1 h
 exact encE_one x u hx
theorem encL_at (l:List Ent)(w:World)(b off:Nat)
  (c1:∀ i,i<l.length->w.cell? ⟨b,off+i * 3,none⟩=some (.string (eAt l i).ty)) (c2:∀ i,i<l.length->w.cell? ⟨b,off+i * 3+1,none⟩=some (.string (eAt l i).key)) (c3:∀ i,i<l.length->w.cell? ⟨b,off+i * 3+2,none⟩=some (.string (eAt l i).id))
  (j:Nat) (u:Value) (h:(encL l)[j]?=some u):w.cell? ((⟨b,off,none⟩:Addr).add j)=some u:=by
 have hj:j<l.length * 3:=by
  rcases Nat.lt_or_ge j (l.length * 3) with h'|h'
  ·exact h'
  ·rw [List.getElem?_eq_none (by rw [encL_len];exact h')] at h;cases h
 have hadd:(⟨b,off,none⟩:Addr).add j=⟨b,off+j,none⟩:=by unfold Addr.add;split <;> simp_all
 rw [hadd]
 have hi:j / 3<l.length:=by omega
 have hg:=encL_get l (j / 3) hi
 rcases (by omega:j=j / 3 * 3∨j=j / 3 * 3+1∨j=j / 3 * 3+2) with e|e|e
 ·rw [e] at h ⊢
  rw [hg.1] at h;cases h
  exact c1 _ hi
 ·rw [e] at h ⊢
  rw [hg.2.1] at h;cases h
  rw [<- Nat.add_assoc];exact c2 _ hi
 ·rw [e] at h ⊢
  rw [hg.2.2] at h;cases h
  rw [<- Nat.add_assoc];exact c3 _ hi
set_option maxHeartbeats 1000000 in
theorem copy_some (ad:Addr)(cap:Nat)(l:List Ent)(w:World)(hr:l.length<=1000000)(hc:∀ j u,(encL l)[j]?=some u->w.cell? (ad.add j)=some u)(hlt:l≠[]->ad.block<w.heap.size) :
  Calls Tryz.prog 90 #[.slice (some ad) l.length cap] w fun e w'=>∃ v,e=.returned v∧OwnE w' w.heap.size v l∧Below w.heap.size w w':=by
 obtain ⟨i0,hi,hz0,hz1,hz2⟩:=info_parts Tryz.infoEntry
 have hown:(w.alloc (.cells #[] 86)).ownsRow w.heap.size 86 3 (.slice (some ⟨w.heap.size,0,none⟩) 0 0) 0 []:=⟨rfl,Or.inr ⟨w.heap.size,0,#[],rfl,Nat.le_refl _,by show (w.heap.push _)[w.heap.size]?=_;simp,Nat.le_refl _,by decide,rfl,rfl⟩⟩
 have hnews:∀ j u,(encL l)[j]?=some u->(w.alloc (.cells #[] 86)).cell? (ad.add j)=some u:=fun j u h=>by
  have hne:l≠[]:=by rintro rfl;simp [encL] at h
  rw [World.cell?_alloc_lt _ _ _ (by have:=hlt hne;unfold Addr.add;split <;> simp_all)]
  exact hc j u h
 have hm1:0+l.length<=maxLen:=by unfold maxLen;omega
 have hm2:(0+l.length) * 48<=140737488355328:=by omega
 have hm3:w.heap.size<=(w.alloc (.cells #[] 86)).heap.size:=by simp
 clear hc hlt hr
 go_enter Tryz.func90,Tryz.ntmps90
 go_wp2_with (at_builtin;refine wpList_append_own _ rfl _ _ 60 rfl w.heap.size 86 i0 (.agg #[.string ByteArray.empty,.string ByteArray.empty,.string ByteArray.empty]) 3 48 Tryz.underlying60 hi hz0 hz1 hz2 rfl (by decide) _ _ _ rfl hown ad l.length cap (encL l) rfl (encL_len l) hnews (encL_one l) hm1 hm2 hm3 ?_;intro v2 w2 hown2 hgrow2 _)
 have hbel:Below w.heap.size w w2:=bA.grown hgrow2 hm3 (fun k hk=>by cases hk;exact Nat.le_refl _)
 have hown3:OwnE w2 w.heap.size v2 l:=by
  have:=hown2
  simp only [Nat.zero_add,List.nil_append] at this
  exact this
 clear hown2 hgrow2 hown hnews
 go_wp2
 go_ret
 exact ⟨_,rfl,hown3,hbel⟩
set_option maxHeartbeats 1000000 in
theorem copy_nil (cap:Nat)(w:World) :
  Calls Tryz.prog 90 #[.slice none 0 cap] w fun e w'=>∃ v,e=.returned v∧OwnE w' w.heap.size v []∧Below w.heap.size w w':=by
 obtain ⟨i0,hi,hz0,hz1,hz2⟩:=info_parts Tryz.infoEntry
 have hap:=fun ty=>run_append_room_src (P:=Tryz.prog) (w:=w.alloc (.cells #[] 86)) 60 60 ty 86 i0 Tryz.underlying60 hi w.heap.size 0 0 0 (.slice none 0 cap) 0 [] (Src.ofNil _ Tryz.underlying60 cap) (Nat.le_refl _) (fun j hj=>absurd hj (Nat.not_lt_zero _)) (fun j hj=>absurd hj (Nat.not_lt_zero _))
 simp only [World.setCells,Nat.add_zero] at hap
 go_enter Tryz.func90,Tryz.ntmps90
 go_wp2
 go_ret
 exact ⟨_,rfl,⟨rfl,Or.inr ⟨w.heap.size,0,#[],rfl,Nat.le_refl _,by show (w.heap.push _)[w.heap.size]?=_;simp,Nat.le_refl _,by decide,rfl,rfl⟩⟩,bA⟩
theorem copy_sl {a:Option Addr}{cap:Nat}{l:List Ent}(w:World)(hr:l.length<=1000000)(h:SlE w a cap l) :
  Calls Tryz.prog 90 #[.slice a l.length cap] w fun e w'=>∃ v,e=.returned v∧OwnE w' w.heap.size v l∧Below w.heap.size w w':=by
 rcases h.cells with rfl|⟨b,off,rfl,hb,c1,c2,c3⟩
 ·cases a with
  | none=>exact copy_nil cap w
  | some ad=>exact copy_some ad cap [] w hr (fun j u h=>by simp [encL] at h) (fun h=>absurd rfl h)
 ·exact copy_some _ cap l w hr (encL_at l w b off c1 c2 c3) (fun _=>hb)
def patL (l ch:List Ent):Nat->List Ent
 | 0=>l
 | k+1=>setL (patL l ch k) (eAt ch k) false
theorem patL_len (l ch:List Ent):∀ k,(patL l ch k).length<=l.length+k
 | 0=>Nat.le_refl _
 | k+1=>by have:=patL_len l ch k;have:=setL_len (patL l ch k) (eAt ch k) false;unfold patL;omega
theorem patL_ok {l ch:List Ent}(h:AllOk l)(hc:AllOk ch):∀ k,k<=ch.length->AllOk (patL l ch k)
 | 0,_=>h
 | k+1,hk=>(patL_ok h hc k (by omega)).set (hc.at k (by omega))
set_option maxRecDepth 100000 in
set_option maxHeartbeats 1000000 in
theorem l4Patch_sl {a:Option Addr}{cap:Nat}{l:List Ent}{ca:Option Addr}{cc:Nat}{ch:List Ent}(w:World)(hl:l.length<=100000)(hcl:ch.length<=100000)(h:SlE w a cap l)(hc:SlE w ca cc ch) :
  Calls Tryz.prog 71 #[.slice a l.length cap,.slice ca ch.length cc] w fun e w'=>∃ v,e=.returned v∧OwnE w' w.heap.size v (patL l ch ch.length)∧Below w.heap.size w w':=by
 have hok:=h.ok
 have hcok:=hc.ok
 go_enter Tryz.func71,Tryz.ntmps71
 go_wp2_with fail
 refine (copy_sl _ (by omega) h).mono ?_
 rintro e w1 ⟨v1,rfl,ho1,hb1⟩
 have Hok:Hid (_):=hok
 have Hcok:Hid (_):=hcok
 clear hok hcok
 go_wp2_with fail
 go_loopw [5,6] (fun v i wr=>∃ k:Nat,k<=ch.length∧i=.int .i64 k∧OwnE wr w.heap.size v (patL l ch k)∧Below w.heap.size w wr) (fun _ i _=>ch.length - (intOf i).toNat)
 case atStart=>exact ⟨0,Nat.zero_le _,rfl,ho1,hb1⟩
 case round =>
  clear ho1 hb1
  obtain ⟨k,hk,rfl,ho,hbel⟩:=hrel
  by_cases hlt:k<ch.length
  ·obtain ⟨ga,gc,e1,hsl⟩:=ho.sl (patL_ok Hok.out Hcok.out k hk).at
   subst e1
   rcases hc.cells with rfl|⟨b,off,rfl,hb,c1,c2,c3⟩
   ·exact absurd hlt (Nat.not_lt_zero _)
   have a1:wr.cell? ⟨b,off+k * 3,none⟩=some (.string (eAt ch k).ty):=(hbel.cell (by exact hb)).trans (c1 k hlt)
   have a2:wr.cell? ⟨b,off+k * 3+1,none⟩=some (.string (eAt ch k).key):=(hbel.cell (by exact hb)).trans (c2 k hlt)
   have a3:wr.cell? ⟨b,off+k * 3+2,none⟩=some (.string (eAt ch k).id):=(hbel.cell (by exact hb)).trans (c3 k hlt)
   have hpl:=patL_len l ch k
   have hst:Hid (setL (patL l ch k) (eAt ch k) false=patL l ch (k+1)):=rfl
   clear c1 c2 c3
   go_wp2_with fail
   refine (set_sl (eAt ch k) false _ (by omega) hsl).mono ?_
   rintro e w2 ⟨v2,rfl,ho2,hb2⟩
   rw [hst.out] at ho2
   obtain ⟨ga2,gc2,e2,_⟩:=ho2.sl (patL_ok Hok.out Hcok.out (k+1) hlt).at
   subst e2
   go_wp2
   go_roundw
   case rel=>exact ⟨k+1,by omega,by go_num,ho2.base_le hbel.size,hbel.trans (hb2.mono hbel.size)⟩
   case measure=>simp [intOf];omega
  ·have hkn:ch.length=k:=by omega
   subst hkn
   go_wp2
   go_ret
   exact ⟨_,rfl,ho,hbel⟩
end Go.Proofs.YtnbdlaglnefcbaaGreat
