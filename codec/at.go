package codec

import "garment/api"

// At returns the node to which the path leads from n.
func At(n api.Node, path []int) (api.Node, api.Errno) {
	for _, index := range path {
		if !n.List || index < 0 || index >= len(n.Kids) {
			return api.Node{}, api.ErrNotFound
		}
		n = n.Kids[index]
	}
	return clone(n), api.OK
}

// clone returns a copy of n that shares no slice with it.
func clone(n api.Node) api.Node {
	kids := n.Kids
	n.Kids = nil
	for _, kid := range kids {
		n.Kids = append(n.Kids, clone(kid))
	}
	return n
}
